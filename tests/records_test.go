package tests

import (
	"slices"
	"strings"
	"testing"

	"loop.example/fanoutlog/impl"
)

func TestRecordConstants(t *testing.T) {
	kinds := []int{impl.RecordPost, impl.RecordMoved, impl.RecordFollow, impl.RecordUnfollow}
	if !slices.Equal(kinds, []int{1, 2, 3, 4}) || impl.RecordsMax != 30 {
		t.Errorf("kinds are %v, and RecordsMax is %d", kinds, impl.RecordsMax)
	}
}

func TestRecordValidSamples(t *testing.T) {
	for _, r := range goodRecords() {
		checkRecordValid(t, r, true)
	}
	for _, r := range badRecords() {
		checkRecordValid(t, r, false)
	}
}

func TestRecordValidCases(t *testing.T) {
	good := []impl.Record{
		postRecord(1, "a"), postRecord(999, "zzzz"), movedRecord(1, 1), movedRecord(999, 10),
		followRecord("a", "b"), followRecord("b", "a"), followRecord("abcd", "abce"), unfollowRecord("a", "aa"), unfollowRecord("zzzz", "zzz"),
	}
	for _, r := range good {
		checkRecordValid(t, r, true)
	}
	bad := []impl.Record{
		postRecord(0, "ann"), postRecord(1000, "ann"), postRecord(1, ""), postRecord(1, "abcde"), postRecord(1, "Ann"),
		movedRecord(0, 1), movedRecord(1000, 1), movedRecord(1, 0), movedRecord(1, 11), movedRecord(1, -1),
		followRecord("ann", "ann"), followRecord("", "ann"), followRecord("ann", ""), followRecord("abcde", "ann"), followRecord("ann", "abcde"),
		unfollowRecord("ann", "ann"), unfollowRecord("", "ann"), unfollowRecord("ann", ""), unfollowRecord("an1", "ann"), unfollowRecord("ann", "an1"),
	}
	for _, r := range bad {
		checkRecordValid(t, r, false)
	}
}

// Which parts a record may have depends on its kind: each value of each part is tried with each kind.
func TestRecordValidParts(t *testing.T) {
	valid := map[int]int{}
	for kind := -3; kind <= 9; kind++ {
		for _, id := range []int{-1, 0, 1, 7, 999, 1000} {
			for _, done := range []int{-1, 0, 1, 10, 11} {
				for _, who := range []string{"", "a", "bob", "zzzz", "abcde", "A"} {
					for _, name := range []string{"", "a", "bob", "zzzz", "abcde", "A"} {
						r := impl.Record{Kind: kind, Id: id, Done: done, Who: who, Name: name}
						checkRecordValid(t, r, wantRecordValid(r))
						if wantRecordValid(r) {
							valid[kind]++
						}
					}
				}
			}
		}
	}
	if len(valid) != 4 || valid[1] != 9 || valid[2] != 6 || valid[3] != 6 || valid[4] != 6 {
		t.Errorf("so many records of each kind are valid: %v", valid)
	}
}

func TestRecordValidNumbers(t *testing.T) {
	for id := -1100; id <= 2100; id++ {
		checkRecordValid(t, postRecord(id, "ann"), id >= 1 && id <= 999)
		for done := -3; done <= 14; done++ {
			checkRecordValid(t, movedRecord(id, done), id >= 1 && id <= 999 && done >= 1 && done <= 10)
		}
		r := followRecord("bob", "ann")
		r.Id = id
		checkRecordValid(t, r, id == 0)
		r.Kind = impl.RecordUnfollow
		checkRecordValid(t, r, id == 0)
	}
}

// Any byte, at any place of a name of any length.
func TestRecordValidBytes(t *testing.T) {
	for n := 1; n <= 6; n++ {
		for at := range n {
			for b := range 256 {
				name := []byte("kkkkkk")[:n]
				name[at] = byte(b)
				want := n <= 4 && b >= 'a' && b <= 'z'
				checkRecordValid(t, postRecord(7, string(name)), want)
				for _, r := range []impl.Record{followRecord(string(name), "jjjj"), followRecord("jjjj", string(name)), unfollowRecord(string(name), "jjjj"), unfollowRecord("jjjj", string(name))} {
					checkRecordValid(t, r, want && string(name) != "jjjj")
				}
			}
		}
	}
}

func TestRecordTextKnownLines(t *testing.T) {
	for _, k := range knownLines {
		checkRecordText(t, k.place, k.r, k.s)
	}
}

func TestRecordTextSamples(t *testing.T) {
	for _, r := range goodRecords() {
		for place := 1; place <= 30; place++ {
			checkRecordText(t, place, r, withCheck(wantText(place, r)))
		}
	}
}

func TestRecordTextNumbers(t *testing.T) {
	for id := -1100; id <= 2100; id++ {
		for _, r := range []impl.Record{postRecord(id, "ann"), movedRecord(id, 1), movedRecord(id, 10)} {
			want := ""
			if id >= 1 && id <= 999 {
				want = withCheck(wantText(9, r))
			}
			checkRecordText(t, 9, r, want)
		}
	}
}

func TestRecordTextPlaces(t *testing.T) {
	for _, r := range oneOfEachKind() {
		for place := -100; place <= 1100; place++ {
			want := ""
			if place >= 1 && place <= 30 {
				want = withCheck(wantText(place, r))
			}
			checkRecordText(t, place, r, want)
		}
	}
}

func TestRecordTextHasNoNewline(t *testing.T) {
	eachRecordText(t, func(line recordLine) {
		if strings.ContainsAny(line.s, "\n\r\t") {
			t.Errorf("RecordText(%d, %v) returned %q", line.place, line.r, line.s)
		}
	})
}

func TestRecordTextInvalid(t *testing.T) {
	for _, r := range badRecords() {
		for _, place := range []int{1, 2, 15, 30, 0, 31, -1} {
			checkRecordText(t, place, r, "")
		}
	}
	for _, r := range slices.Concat(goodRecords(), badRecords()) {
		for _, place := range badPlaces {
			checkRecordText(t, place, r, "")
		}
	}
}

func checkRecordValid(t *testing.T, r impl.Record, want bool) {
	t.Helper()
	if impl.RecordValid(r) != want {
		t.Errorf("RecordValid(%+v) is not %v", r, want)
	}
}

func checkRecordText(t *testing.T, place int, r impl.Record, want string) {
	t.Helper()
	if got := impl.RecordText(place, r); got != want {
		t.Errorf("RecordText(%d, %+v) returned %q; want %q", place, r, got, want)
	}
}
