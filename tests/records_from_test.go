package tests

import (
	"slices"
	"strconv"
	"testing"

	"loop.example/fanoutlog/impl"
)

func TestRecordFromKnownLines(t *testing.T) {
	for _, k := range knownLines {
		checkRecordFrom(t, k.s, k.place, k.r, true)
	}
}

func TestRecordFromSamples(t *testing.T) {
	for _, r := range goodRecords() {
		for place := 1; place <= 30; place++ {
			checkRecordFrom(t, withCheck(wantText(place, r)), place, r, true)
		}
	}
}

// What an invalid record or place would tell is no line, even if its check is right.
func TestRecordFromInvalidRecords(t *testing.T) {
	for _, r := range badRecords() {
		// What a kind does not use is told by no line, so that such a record may have the line of a valid one.
		checkLikeWanted(t, withCheck(wantText(1, r)))
	}
	for _, r := range goodRecords() {
		for _, place := range badPlaces {
			checkNoRecord(t, withCheck(wantText(place, r)))
		}
	}
}

func TestRecordFromWrongLines(t *testing.T) {
	for _, s := range wrongLines() {
		checkNoRecord(t, s)
	}
}

func TestRecordFromCases(t *testing.T) {
	for _, s := range []string{
		"", " ", "    ", "1 moved 3 2", "1 moved 3 2 ", "1 moved 3 2 281", "1 moved 3 2 283", "1 moved 3 2 0282", "1 moved 3 2 +282", "1 moved 3 2 -282",
		"1 moved 3 2 1279", "1 moved 3 2 2820", "1 moved 3 2 28", "1 moved 3 2 282 ", " 1 moved 3 2 282", "1 moved 3 2 282\n", "1 moved 3 2  282", "1  moved 3 2 282",
		"1 moved 3 2 282 282", "moved 3 2 282", "1 moved 3 282", "1 moved 3 2 0", "1 moved 17 8 00", "1 moved 17 8 -0", "1 moved 17 8 +0", "1 moved 17 8 997", "1 moved 17 8 1994",
		"1 moved 17 8 ", "1 moved 17 8", "1 moved 17 8 1", "1 moved 17 8 -1", "1 moved 17 8 996", "1 moved 17 9 998", "1 moved 17 9 01", "1 moved 17 9 11",
		withCheck("0 moved 3 2"), withCheck("31 moved 3 2"), withCheck("01 moved 3 2"), withCheck("+1 moved 3 2"), withCheck("-1 moved 3 2"), withCheck(" moved 3 2"),
		withCheck("1 moved 03 2"), withCheck("1 moved +3 2"), withCheck("1 moved 3 02"), withCheck("1 moved 3 +2"), withCheck("1 moved 3 11"), withCheck("1 moved 3 0"),
		withCheck("1 moved 0 2"), withCheck("1 moved 1000 2"), withCheck("1 post 0 ann"), withCheck("1 post 1000 ann"), withCheck("1 post 007 ann"), withCheck("1 post 7 "),
		withCheck("1 post 7 Ann"), withCheck("1 post 7 abcde"), withCheck("1 follow ann ann"), withCheck("1 unfollow ann ann"), withCheck("1 follow  ann"), withCheck("1 follow ann "),
		withCheck("1 moved 18446744073709551619 2"), withCheck("18446744073709551617 moved 3 2"), withCheck("1 moved 3 18446744073709551618"), withCheck("1 moves 3 2"), withCheck("1  3 2"),
		withCheck("1 moved 3\n2"), withCheck("1 moved 3 2\n"), withCheck("\n1 moved 3 2"),
	} {
		checkNoRecord(t, s)
	}
}

// Of all numbers only one is the check of a text.
func TestRecordFromAllChecks(t *testing.T) {
	for _, k := range knownLines {
		text := wantText(k.place, k.r)
		right := wantCheck(text)
		for check := -1100; check <= 3100; check++ {
			if check == right {
				checkRecordFrom(t, text+" "+strconv.Itoa(check), k.place, k.r, true)
			} else {
				checkNoRecord(t, text+" "+strconv.Itoa(check))
			}
		}
		for _, wrong := range wrongChecks(right) {
			checkNoRecord(t, text+" "+wrong)
		}
	}
}

// Checks of 0 are right where they are, but only as one digit.
func TestRecordFromCheckZero(t *testing.T) {
	for _, k := range zeroCheckLines {
		checkRecordFrom(t, k.s, k.place, k.r, true)
		text := k.s[:len(k.s)-2]
		for _, s := range []string{text, text + " ", text + " 00", text + " -0", text + " +0", text + " 0.", text + " 997", text + " 1", text + "0", text + " 0 ", text + "  0", text + " 0\n"} {
			checkNoRecord(t, s)
		}
	}
}

// No line stays one if a byte becomes another one.
func TestRecordFromChangedBytes(t *testing.T) {
	for _, s := range sampleLines() {
		for at := range len(s) {
			for b := range 256 {
				if changed := s[:at] + string([]byte{byte(b)}) + s[at+1:]; changed != s {
					checkNoRecord(t, changed)
				}
			}
		}
	}
}

// Any byte may be missing, or come in between, with the check of before or with the right one.
func TestRecordFromBytesLessAndMore(t *testing.T) {
	for _, s := range sampleLines() {
		for at := range len(s) {
			checkLikeWanted(t, s[:at]+s[at+1:])
			for b := range 256 {
				checkLikeWanted(t, s[:at]+string([]byte{byte(b)})+s[at:])
			}
		}
		for b := range 256 {
			checkNoRecord(t, s+string([]byte{byte(b)}))
			checkNoRecord(t, string([]byte{byte(b)})+s)
		}
	}
}

func TestRecordFromTextsWithTheRightCheck(t *testing.T) {
	for _, r := range append(oneOfEachKind(), movedRecord(999, 10), postRecord(10, "ab"), followRecord("a", "zzzz"), unfollowRecord("z", "b")) {
		for _, place := range []int{1, 3, 30} {
			text := wantText(place, r)
			for at := range len(text) {
				checkLikeWanted(t, withCheck(text[:at]+text[at+1:]))
				for b := range 256 {
					other := string([]byte{byte(b)})
					checkLikeWanted(t, withCheck(text[:at]+other+text[at+1:]))
					checkLikeWanted(t, withCheck(text[:at]+other+text[at:]))
				}
			}
		}
	}
}

func TestRecordFromSplicedLines(t *testing.T) {
	some := 0
	for _, s := range splicedLines() {
		checkLikeWanted(t, s)
		if _, _, ok := wantFrom(s); ok {
			some++
		}
	}
	if some == 0 || some == len(splicedLines()) {
		t.Errorf("%d of %d are lines", some, len(splicedLines()))
	}
}

func TestRecordFromBeginningsAndEnds(t *testing.T) {
	for _, s := range sampleLines() {
		for at := range len(s) {
			checkLikeWanted(t, s[:at])
			if at > 0 {
				checkLikeWanted(t, s[at:])
			}
		}
		for _, more := range []string{"\n", " ", "\n" + s, " " + s, s, "\x00"} {
			checkNoRecord(t, s+more)
		}
	}
}

func TestRecordFromAnyBytes(t *testing.T) {
	for _, s := range anyBytes() {
		checkNoRecord(t, s)
	}
	for a := range 256 {
		for b := range 256 {
			checkNoRecord(t, string([]byte{byte(a), byte(b)}))
			checkNoRecord(t, "1 moved 3 2 "+string([]byte{byte(a), byte(b)}))
		}
	}
}

// No call depends on those ahead of it.
func TestRecordsKeepNoState(t *testing.T) {
	good, bad := goodRecords(), badRecords()
	for i, r := range good {
		place, line := 1+i%30, withCheck(wantText(1+i%30, r))
		for range 2 {
			checkRecordValid(t, bad[i%len(bad)], false)
			checkRecordText(t, place, bad[i%len(bad)], "")
			checkNoRecord(t, line+"0")
			checkRecordValid(t, r, true)
			checkRecordText(t, place, r, line)
			checkRecordFrom(t, line, place, r, true)
		}
	}
	if !slices.Equal(good, goodRecords()) {
		t.Error("the records have changed")
	}
}

func checkRecordFrom(t *testing.T, s string, place int, r impl.Record, ok bool) {
	t.Helper()
	if gotPlace, got, gotOk := impl.RecordFrom(s); gotOk != ok || gotPlace != place || got != r {
		t.Errorf("RecordFrom(%.100q) returned %d, %+v, %v; want %d, %+v, %v", s, gotPlace, got, gotOk, place, r, ok)
	}
}

// checkNoRecord checks that RecordFrom fails, with zero values.
func checkNoRecord(t *testing.T, s string) {
	t.Helper()
	checkRecordFrom(t, s, 0, impl.Record{}, false)
}

// checkLikeWanted checks RecordFrom of a string that may be a line.
func checkLikeWanted(t *testing.T, s string) {
	t.Helper()
	place, r, ok := wantFrom(s)
	checkRecordFrom(t, s, place, r, ok)
}
