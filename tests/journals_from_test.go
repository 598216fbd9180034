package tests

import (
	"fmt"
	"slices"
	"strconv"
	"strings"
	"testing"

	"loop.example/fanoutlog/impl"
)

func TestJournalFromKnown(t *testing.T) {
	checkJournalFrom(t, journalRead{knownJournal, knownRecords(), len(knownJournal), impl.JournalFine})
	moved := []impl.Record{movedRecord(3, 2)}
	both := []impl.Record{movedRecord(3, 2), postRecord(1, "a")}
	for _, read := range []journalRead{
		{"1 moved 3 2 282\n", moved, 16, impl.JournalFine},
		{"1 moved 3 2 282\n2 post 1 a 51\n", both, 30, impl.JournalFine},
		{"1 moved 3 2 282\n2 post 1 a 51", moved, 16, impl.JournalTorn},
		{"1 moved 3 2 282\n2 post 1 a 51\n3", both, 30, impl.JournalTorn},
		{"1 moved 3 2 282\n\n", moved, 16, impl.JournalBad},
		{"1 moved 3 2 282\n\n2 post 1 a 51\n", moved, 16, impl.JournalBad},
		{"1 moved 3 2 282\n2 post 1 a 51\n\n", both, 30, impl.JournalBad},
		{"1 moved 3 2 282\n1 moved 3 2 282\n", moved, 16, impl.JournalBad},
		{"1 moved 3 2 282\n1 moved 3 2 282", moved, 16, impl.JournalTorn},
		{"1 moved 3 2 282\n3 follow cat bob 757\n", moved, 16, impl.JournalBad},
		{"1 moved 3 2 282\n3 follow cat bob 757", moved, 16, impl.JournalTorn},
		{"1 moved 3 2 282\n2 post 1 a 52\n3 follow cat bob 757\n", moved, 16, impl.JournalBad},
		{"1 moved 3 2 282\n2 post 1 a 51\n3 follow cat bob 758\n", both, 30, impl.JournalBad},
		{"1 moved 3 2 282\n2 post 1 a 51\r\n", moved, 16, impl.JournalBad},
		{"1 moved 3 2 282\n\r", moved, 16, impl.JournalTorn},
		{"1 moved 3 2 282\n\r\n", moved, 16, impl.JournalBad},
		{"1 moved 3 2 282\n ", moved, 16, impl.JournalTorn},
		{"1 moved 3 2 282\n \n", moved, 16, impl.JournalBad},
		{"1 moved 3 2 282\nx\ny", moved, 16, impl.JournalBad},
	} {
		checkJournalFrom(t, read)
	}
}

// Texts that do not begin with a line of place 1 have no records.
func TestJournalFromNoRecords(t *testing.T) {
	checkNoRecords(t, "", impl.JournalFine)
	for _, text := range []string{
		"1", "1 moved 3 2 282", "1 moved 3 2 282\r", "1 moved 3 2 282 ", "2 post 1 a 51", "31 moved 3 2 0", "1 moved 3 2 283", "x", " ", "\r", "\x00", "\xff", "é", "\u2028", "\u0085",
	} {
		checkNoRecords(t, text, impl.JournalTorn)
	}
	for _, text := range []string{
		"\n", "\n\n", "\n\n\n", " \n", "\r\n", "\x00\n", "\xff\n", "x\n", "1\n", "x\n1 moved 3 2 282\n", "x\n1 moved 3 2 282", "\nx", "\n1 moved 3 2 282\n", "\n1 moved 3 2 282",
		"1 moved 3 2 283\n", "1 moved 3 2\n", "1 moved 3 2 \n", "1 moved 3 2 282 \n", " 1 moved 3 2 282\n", "1 moved 3 2 282\r\n", "1 moved 3 2 282\x00\n", "01 moved 3 2 282\n", "1 moved 3 2\n282\n",
		"2 post 1 a 51\n", "2 post 1 a 51\n1 moved 3 2 282\n", "30 moved 999 10 602\n", withCheck("0 moved 3 2") + "\n", withCheck("31 moved 3 2") + "\n", withCheck("-1 moved 3 2") + "\n", withCheck("01 moved 3 2") + "\n",
	} {
		checkNoRecords(t, text, impl.JournalBad)
	}
}

func TestJournalFromSamples(t *testing.T) {
	for _, list := range goodRecordLists() {
		text := wantJournal(list)
		checkJournalFrom(t, journalRead{text, list, len(text), impl.JournalFine})
	}
	for _, r := range goodRecords() {
		line := wantJournal([]impl.Record{r})
		checkJournalFrom(t, journalRead{line, []impl.Record{r}, len(line), impl.JournalFine})
	}
	for _, text := range sampleTexts() {
		checkJournalLikeWanted(t, text)
	}
}

// A text may end anywhere: only a line with its newline counts, and one without it is torn, even if nothing else of it is missing.
func TestJournalFromTornAnywhere(t *testing.T) {
	for _, list := range goodRecordLists() {
		text := wantJournal(list)
		for end := range len(text) {
			torn := text[:end]
			want := journalRead{torn, list[:strings.Count(torn, "\n")], strings.LastIndex(torn, "\n") + 1, impl.JournalTorn}
			if want.bytes == end {
				want.why = impl.JournalFine
			}
			checkJournalFrom(t, want)
		}
	}
}

// A newline, or a newline and more lines, behind a torn line make it a bad one, unless nothing else of it was missing.
func TestJournalFromTornWithMoreBehind(t *testing.T) {
	for _, list := range fewRecordLists() {
		text := wantJournal(list)
		for end := range len(text) {
			torn := text[:end]
			lines, bytes := strings.Count(torn, "\n"), strings.LastIndex(torn, "\n")+1
			if text[end] == '\n' {
				checkJournalFrom(t, journalRead{torn + "\n", list[:lines+1], end + 1, impl.JournalFine})
				continue
			}
			for _, more := range []string{"\n", "\n\n", "\n" + text, "\n" + text[bytes:], "\n1 moved 3 2 282", "\nx"} {
				checkJournalFrom(t, journalRead{torn + more, list[:lines], bytes, impl.JournalBad})
			}
		}
	}
}

func TestJournalFromEmptyLines(t *testing.T) {
	for _, list := range goodRecordLists() {
		lines := linesOf(1, list)
		for i := range len(lines) + 1 {
			ahead, behind := strings.Join(lines[:i], ""), strings.Join(lines[i:], "")
			checkJournalFrom(t, journalRead{ahead + "\n" + behind, list[:i], len(ahead), impl.JournalBad})
			checkJournalFrom(t, journalRead{ahead + "\n\n" + behind, list[:i], len(ahead), impl.JournalBad})
		}
	}
}

// The place of a line is told by all lines ahead of it.
func TestJournalFromWrongPlaces(t *testing.T) {
	for _, list := range goodRecordLists() {
		lines := linesOf(1, list)
		for i, r := range list {
			ahead, behind := strings.Join(lines[:i], ""), strings.Join(lines[i+1:], "")
			for place := -2; place <= 33; place++ {
				if place == i+1 {
					continue
				}
				line := withCheck(wantText(place, r))
				checkJournalFrom(t, journalRead{ahead + line + "\n" + behind, list[:i], len(ahead), impl.JournalBad})
				checkJournalFrom(t, journalRead{ahead + line, list[:i], len(ahead), impl.JournalTorn})
			}
		}
	}
}

func TestJournalFromPlacesTwiceAndLeftOut(t *testing.T) {
	for _, list := range goodRecordLists() {
		lines := linesOf(1, list)
		for i, line := range lines {
			ahead, behind := strings.Join(lines[:i], ""), strings.Join(lines[i+1:], "")
			checkJournalFrom(t, journalRead{ahead + line + line + behind, list[:i+1], len(ahead + line), impl.JournalBad})
			if behind == "" {
				checkJournalFrom(t, journalRead{ahead, list[:i], len(ahead), impl.JournalFine})
			} else {
				checkJournalFrom(t, journalRead{ahead + behind, list[:i], len(ahead), impl.JournalBad})
			}
		}
	}
}

// A line with a wrong check ends the records, whatever is behind it.
func TestJournalFromWrongChecks(t *testing.T) {
	for _, list := range fewRecordLists() {
		lines := linesOf(1, list)
		for _, i := range []int{0, len(list) / 2, len(list) - 1} {
			ahead, behind := strings.Join(lines[:i], ""), strings.Join(lines[i+1:], "")
			text := wantText(i+1, list[i])
			for check := -1; check <= 1100; check++ {
				if check != wantCheck(text) {
					wrong := ahead + text + " " + strconv.Itoa(check) + "\n" + behind
					checkJournalFrom(t, journalRead{wrong, list[:i], len(ahead), impl.JournalBad})
				}
			}
			for _, wrong := range wrongChecks(wantCheck(text)) {
				checkJournalLikeWanted(t, ahead+text+" "+wrong+"\n"+behind)
			}
		}
	}
}

// No line is told by what is invalid, even if its place and its check are right.
func TestJournalFromInvalidRecords(t *testing.T) {
	for _, list := range fewRecordLists() {
		lines := linesOf(1, list)
		for _, i := range []int{0, len(list) / 2, len(list) - 1} {
			ahead, behind := strings.Join(lines[:i], ""), strings.Join(lines[i+1:], "")
			for _, bad := range badRecords() {
				// What a kind does not use is told by no line, so that such a record may have the line of a valid one.
				checkJournalLikeWanted(t, ahead+withCheck(wantText(i+1, bad))+"\n"+behind)
			}
		}
	}
}

func TestJournalFromSomethingBehind(t *testing.T) {
	behind := []string{"x", " ", "\r", "\x00", "\xff", "1", "5", "31", "\t", "ok", "1 moved 3 2 282", "31 moved 3 2 282", "check", strings.Repeat("9", 10000)}
	for _, list := range goodRecordLists() {
		text := wantJournal(list)
		for _, more := range behind {
			torn, bad := journalRead{text + more, list, len(text), impl.JournalTorn}, journalRead{text + more + " \n", list, len(text), impl.JournalBad}
			checkJournalFrom(t, torn)
			checkJournalFrom(t, bad)
			bad.text += "x"
			checkJournalFrom(t, bad)
		}
	}
}

// Behind RecordsMax lines no line is one of the next record, because it has no place.
func TestJournalFromTooManyLines(t *testing.T) {
	list := recordRow(0, 30)
	text := wantJournal(list)
	for _, r := range append(oneOfEachKind(), list[29]) {
		for place := -1; place <= 65; place++ {
			line := withCheck(wantText(place, r))
			checkJournalFrom(t, journalRead{text + line + "\n", list, len(text), impl.JournalBad})
			checkJournalFrom(t, journalRead{text + line, list, len(text), impl.JournalTorn})
		}
	}
	for _, many := range []int{31, 32, 50, 60, 100, 1000, 20000} {
		long := wantJournal(recordRow(0, many))
		checkJournalFrom(t, journalRead{long, list, len(text), impl.JournalBad})
		checkJournalFrom(t, journalRead{long + "x", list, len(text), impl.JournalBad})
	}
}

func TestJournalFromCarriageReturns(t *testing.T) {
	for _, list := range goodRecordLists() {
		lines := linesOf(1, list)
		for i, line := range lines {
			ahead, behind := strings.Join(lines[:i], ""), strings.Join(lines[i+1:], "")
			returned := strings.TrimSuffix(line, "\n") + "\r"
			checkJournalFrom(t, journalRead{ahead + returned + "\n" + behind, list[:i], len(ahead), impl.JournalBad})
			checkJournalFrom(t, journalRead{ahead + returned, list[:i], len(ahead), impl.JournalTorn})
		}
	}
}

// A byte that becomes another one ends the records ahead of its line; this is torn if no newline is left.
func TestJournalFromChangedBytes(t *testing.T) {
	for _, list := range [][]impl.Record{knownRecords(), {movedRecord(3, 2)}, recordRow(0, 30)} {
		text := wantJournal(list)
		for at := range len(text) {
			for _, b := range otherBytes(text[at], len(list) > 4) {
				changed := text[:at] + string([]byte{b}) + text[at+1:]
				lines, bytes := strings.Count(text[:at], "\n"), strings.LastIndex(text[:at], "\n")+1
				want := journalRead{changed, list[:lines], bytes, impl.JournalTorn}
				if strings.Contains(changed[bytes:], "\n") {
					want.why = impl.JournalBad
				}
				checkJournalFrom(t, want)
			}
		}
	}
}

// otherBytes returns all bytes but one, or only a few of them.
func otherBytes(b byte, few bool) []byte {
	others := []byte{b + 1, b - 1, b ^ 0x80, b ^ 0x20, ' ', '\n', '\r', 0, 0xff, '0', 'a'}
	if !few {
		others = nil
		for other := range 256 {
			others = append(others, byte(other))
		}
	}
	return slices.DeleteFunc(others, func(other byte) bool { return other == b })
}

// Any byte may be missing, or come in between.
func TestJournalFromBytesLessAndMore(t *testing.T) {
	for at := range len(knownJournal) {
		checkJournalLikeWanted(t, knownJournal[:at]+knownJournal[at+1:])
		for b := range 256 {
			checkJournalLikeWanted(t, knownJournal[:at]+string([]byte{byte(b)})+knownJournal[at:])
			checkJournalLikeWanted(t, knownJournal+string([]byte{byte(b), byte(at)}))
		}
	}
}

// A wrong line may be the first one, one in the middle, or the last one, with its newline or without.
func TestJournalFromWrongLines(t *testing.T) {
	for _, line := range wrongLines() {
		for _, text := range []string{line, line + "\n", line + "\n" + knownJournal, knownJournal + line, knownJournal + line + "\n", knownJournal + line + "\n5 post 7 ann"} {
			checkJournalLikeWanted(t, text)
		}
	}
}

func TestJournalFromAnyBytes(t *testing.T) {
	for _, s := range anyBytes() {
		checkJournalLikeWanted(t, s)
		checkJournalLikeWanted(t, s+"\n")
		checkJournalLikeWanted(t, knownJournal+s)
		checkJournalLikeWanted(t, knownJournal+s+"\n")
	}
	checkNoRecords(t, strings.Repeat("\n", 100000), impl.JournalBad)
	checkNoRecords(t, strings.Repeat("\xff", 1000000), impl.JournalTorn)
	checkNoRecords(t, strings.Repeat("1 ", 500000)+"\n", impl.JournalBad)
}

func checkJournalFrom(t *testing.T, want journalRead) {
	t.Helper()
	if list, bytes, why := impl.JournalFrom(want.text); !slices.Equal(list, want.list) || bytes != want.bytes || why != want.why {
		t.Errorf("JournalFrom(%s) returned %+v, %d, %d; want %+v, %d, %d", shortText(want.text), list, bytes, why, want.list, want.bytes, want.why)
	}
}

// shortText returns a text, quoted, or its beginning and its end and how long it is.
func shortText(text string) string {
	if len(text) <= 400 {
		return strconv.Quote(text)
	}
	return fmt.Sprintf("%q..%q (%d bytes)", text[:200], text[len(text)-200:], len(text))
}

// checkNoRecords checks that JournalFrom finds no records, and why.
func checkNoRecords(t *testing.T, text string, why int) {
	t.Helper()
	checkJournalFrom(t, journalRead{text: text, why: why})
}

// checkJournalLikeWanted checks JournalFrom of any text.
func checkJournalLikeWanted(t *testing.T, text string) {
	t.Helper()
	checkJournalFrom(t, wantRead(text))
}
