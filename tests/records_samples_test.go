package tests

import (
	"fmt"
	"math"
	"regexp"
	"slices"
	"strconv"
	"strings"
	"testing"

	"loop.example/fanoutlog/impl"
)

// badKinds are numbers that are none of a kind.
var badKinds = []int{0, 5, 6, -1, -2, -3, -4, 256, 257, math.MinInt32, math.MaxInt32, math.MinInt, math.MaxInt}

// badDones are not in the range of how many names of a job are done.
var badDones = []int{0, 11, 12, 100, -1, -2, -10, -11, 257, math.MinInt32, math.MaxInt32, math.MinInt, math.MaxInt}

// badPlaces are not in the range of places.
var badPlaces = []int{0, 31, 32, 100, 300, -1, -2, -30, -31, 257, math.MinInt32, math.MaxInt32, math.MinInt, math.MaxInt}

// recordNames have 1 to 4 letters, and some begin with others.
var recordNames = []string{"a", "z", "ab", "bob", "ann", "anna", "cat", "zzzz"}

func postRecord(id int, author string) impl.Record {
	return impl.Record{Kind: impl.RecordPost, Id: id, Who: author}
}

func movedRecord(id, done int) impl.Record {
	return impl.Record{Kind: impl.RecordMoved, Id: id, Done: done}
}

func followRecord(who, name string) impl.Record {
	return impl.Record{Kind: impl.RecordFollow, Who: who, Name: name}
}

func unfollowRecord(who, name string) impl.Record {
	return impl.Record{Kind: impl.RecordUnfollow, Who: who, Name: name}
}

// oneOfEachKind returns a record of each kind.
func oneOfEachKind() []impl.Record {
	return []impl.Record{postRecord(7, "bob"), movedRecord(500, 9), followRecord("bob", "ann"), unfollowRecord("ann", "bob")}
}

// goodRecords returns records of each kind, with the least and the greatest numbers, and the shortest and the longest names.
func goodRecords() []impl.Record {
	var list []impl.Record
	for _, id := range someIds {
		for _, name := range recordNames {
			list = append(list, postRecord(id, name))
		}
		for done := 1; done <= 10; done++ {
			list = append(list, movedRecord(id, done))
		}
	}
	for _, who := range recordNames {
		for _, name := range recordNames {
			if who != name {
				list = append(list, followRecord(who, name), unfollowRecord(who, name))
			}
		}
	}
	return list
}

// badRecords returns what is no record: for a kind, a number, how many are done, a name, or what a kind does not use.
func badRecords() []impl.Record {
	list := []impl.Record{{}, {Id: 7, Done: 9, Who: "bob", Name: "ann"}, postRecord(0, ""), movedRecord(0, 0), followRecord("", ""), unfollowRecord("", "")}
	for _, kind := range badKinds {
		for _, r := range oneOfEachKind() {
			r.Kind = kind
			list = append(list, r)
		}
		list = append(list, impl.Record{Kind: kind})
	}
	for _, id := range badIds {
		list = append(list, postRecord(id, "ann"), postRecord(id, ""), movedRecord(id, 1), movedRecord(id, 10), movedRecord(id, 0))
	}
	for _, done := range badDones {
		list = append(list, movedRecord(1, done), movedRecord(7, done), movedRecord(999, done))
	}
	for _, name := range badNames {
		list = append(list, postRecord(7, name))
		for _, pair := range [][]string{{name, "ann"}, {"ann", name}, {name, name}, {name, ""}, {"", name}} {
			list = append(list, followRecord(pair[0], pair[1]), unfollowRecord(pair[0], pair[1]))
		}
	}
	for _, name := range recordNames {
		list = append(list, followRecord(name, name), unfollowRecord(name, name))
	}
	return append(list, mixedRecords()...)
}

// mixedRecords returns records of each kind that have something that the kind does not use.
func mixedRecords() []impl.Record {
	var list []impl.Record
	for _, number := range []int{1, 7, 10, 999, 1000, -1, math.MinInt, math.MaxInt} {
		list = append(list,
			impl.Record{Kind: impl.RecordPost, Id: 7, Done: number, Who: "bob"},
			impl.Record{Kind: impl.RecordFollow, Id: number, Who: "bob", Name: "ann"},
			impl.Record{Kind: impl.RecordFollow, Done: number, Who: "bob", Name: "ann"},
			impl.Record{Kind: impl.RecordUnfollow, Id: number, Who: "bob", Name: "ann"},
			impl.Record{Kind: impl.RecordUnfollow, Done: number, Who: "bob", Name: "ann"})
	}
	for _, name := range []string{"ann", "bob", "Ann", " ", "\x00", "abcde"} {
		list = append(list,
			impl.Record{Kind: impl.RecordPost, Id: 7, Who: "bob", Name: name},
			impl.Record{Kind: impl.RecordMoved, Id: 7, Done: 2, Who: name},
			impl.Record{Kind: impl.RecordMoved, Id: 7, Done: 2, Name: name})
	}
	return append(list,
		impl.Record{Kind: impl.RecordPost, Id: 7, Name: "bob"},
		impl.Record{Kind: impl.RecordMoved, Id: 7, Done: 2, Who: "ann", Name: "bob"},
		impl.Record{Kind: impl.RecordPost, Id: 7, Done: 2, Who: "ann", Name: "bob"},
		impl.Record{Kind: impl.RecordFollow, Id: 7, Done: 2, Who: "ann", Name: "bob"})
}

// zeroCheckLines are lines whose check is 0, one of each kind.
var zeroCheckLines = []recordLine{
	{"1 post 415 bob 0", 1, postRecord(415, "bob")},
	{"1 moved 17 8 0", 1, movedRecord(17, 8)},
	{"5 follow bob jim 0", 5, followRecord("bob", "jim")},
	{"1 unfollow ann ida 0", 1, unfollowRecord("ann", "ida")},
}

// knownLines are lines whose checks were computed apart from the program and from wantCheck.
var knownLines = append([]recordLine{
	{"1 moved 3 2 282", 1, movedRecord(3, 2)},
	{"1 post 1 ann 795", 1, postRecord(1, "ann")},
	{"2 post 1 a 51", 2, postRecord(1, "a")},
	{"30 post 999 zzzz 969", 30, postRecord(999, "zzzz")},
	{"1 moved 1 1 526", 1, movedRecord(1, 1)},
	{"12 moved 500 9 57", 12, movedRecord(500, 9)},
	{"30 moved 999 10 602", 30, movedRecord(999, 10)},
	{"1 follow bob ann 368", 1, followRecord("bob", "ann")},
	{"3 follow cat bob 757", 3, followRecord("cat", "bob")},
	{"30 follow a zzzz 746", 30, followRecord("a", "zzzz")},
	{"1 unfollow bob ann 114", 1, unfollowRecord("bob", "ann")},
	{"4 unfollow ann anna 799", 4, unfollowRecord("ann", "anna")},
	{"30 unfollow zzzz a 883", 30, unfollowRecord("zzzz", "a")},
	{"1 moved 17 9 1", 1, movedRecord(17, 9)},
	{"1 moved 195 1 9", 1, movedRecord(195, 1)},
	{"1 moved 77 10 10", 1, movedRecord(77, 10)},
	{"1 moved 50 5 99", 1, movedRecord(50, 5)},
	{"1 moved 50 6 100", 1, movedRecord(50, 6)},
	{"1 moved 17 7 996", 1, movedRecord(17, 7)},
}, zeroCheckLines...)

// recordLine is a line, and the place and the record that it tells.
type recordLine struct {
	s     string
	place int
	r     impl.Record
}

// lineForm is the form of a line; its parts are named as what they tell.
var lineForm = regexp.MustCompile(`^(?P<text>(?P<place>[1-9]|[12][0-9]|30) (?:` +
	`(?P<post>post) (?P<id>[1-9][0-9]{0,2}) (?P<author>[a-z]{1,4})|` +
	`(?P<moved>moved) (?P<of>[1-9][0-9]{0,2}) (?P<done>[1-9]|10)|` +
	`(?P<follow>follow|unfollow) (?P<who>[a-z]{1,4}) (?P<name>[a-z]{1,4})` +
	`)) (?P<check>0|[1-9][0-9]{0,2})$`)

var nameForm = regexp.MustCompile(`^[a-z]{1,4}$`)

// wantCheck returns the check of a text, from its last byte on, without the program's help.
func wantCheck(text string) int {
	sum, power := 0, 1
	for i := len(text) - 1; i >= 0; i-- {
		sum = (sum + int(text[i])*power) % 997
		power = power * 263 % 997
	}
	return (sum + 17*power) % 997
}

// withCheck returns any text with a blank and its check behind it.
func withCheck(text string) string {
	return text + " " + strconv.Itoa(wantCheck(text))
}

// wantText returns the line of a good record, without its check and without the program's help.
func wantText(place int, r impl.Record) string {
	switch r.Kind {
	case 1:
		return fmt.Sprintf("%d post %d %s", place, r.Id, r.Who)
	case 2:
		return fmt.Sprintf("%d moved %d %d", place, r.Id, r.Done)
	case 3:
		return fmt.Sprintf("%d follow %s %s", place, r.Who, r.Name)
	}
	return fmt.Sprintf("%d unfollow %s %s", place, r.Who, r.Name)
}

// wantRecordValid reports whether a record is valid, without the program's help.
func wantRecordValid(r impl.Record) bool {
	switch r.Kind {
	case 1:
		return r.Id >= 1 && r.Id <= 999 && r.Done == 0 && nameForm.MatchString(r.Who) && r.Name == ""
	case 2:
		return r.Id >= 1 && r.Id <= 999 && r.Done >= 1 && r.Done <= 10 && r.Who == "" && r.Name == ""
	case 3, 4:
		return r.Id == 0 && r.Done == 0 && nameForm.MatchString(r.Who) && nameForm.MatchString(r.Name) && r.Who != r.Name
	}
	return false
}

// wantFrom returns what RecordFrom has to return, without the program's help.
func wantFrom(s string) (int, impl.Record, bool) {
	parts := lineForm.FindStringSubmatch(s)
	if parts == nil {
		return 0, impl.Record{}, false
	}
	text := func(part string) string { return parts[lineForm.SubexpIndex(part)] }
	number := func(part string) int {
		n, _ := strconv.Atoi(text(part))
		return n
	}
	var r impl.Record
	switch {
	case text("post") != "":
		r = postRecord(number("id"), text("author"))
	case text("moved") != "":
		r = movedRecord(number("of"), number("done"))
	case text("follow") == "follow":
		r = followRecord(text("who"), text("name"))
	default:
		r = unfollowRecord(text("who"), text("name"))
	}
	if number("check") != wantCheck(text("text")) || !wantRecordValid(r) {
		return 0, impl.Record{}, false
	}
	return number("place"), r, true
}

// sampleLines returns a line of each kind at the first, at a middle and at the last place, and all known ones.
func sampleLines() []string {
	var lines []string
	for _, place := range []int{1, 9, 10, 17, 30} {
		for _, r := range append(oneOfEachKind(), postRecord(1, "a"), postRecord(999, "zzzz"), movedRecord(1, 1), movedRecord(999, 10), followRecord("a", "zzzz"), unfollowRecord("zzzz", "y")) {
			lines = append(lines, withCheck(wantText(place, r)))
		}
	}
	for _, k := range knownLines {
		lines = append(lines, k.s)
	}
	return lines
}

// splicedLines returns all beginnings of some lines with all ends of others behind them: most are no lines, but some are.
func splicedLines() []string {
	lines := []string{"1 moved 3 2 282", "12 moved 500 9 57", "2 post 1 a 51", "1 moved 17 8 0", "3 follow cat bob 757", "1 unfollow bob ann 114"}
	var spliced []string
	for _, a := range lines {
		for _, b := range lines {
			for i := range len(a) + 1 {
				for k := range len(b) + 1 {
					spliced = append(spliced, a[:i]+b[k:])
				}
			}
		}
	}
	return spliced
}

// anyBytes are strings that have bytes of all kinds, and no line.
func anyBytes() []string {
	list := []string{"", " ", "    ", "     ", "\n", "\x00", "\xff\xfe", "\xff \xff \xff \xff \xff", "é ü ß ö ä", "1", "0", "-1", "post", "check"}
	var all []byte
	for b := range 256 {
		list = append(list, string([]byte{byte(b)}), strings.Repeat(string([]byte{byte(b)}), 5), strings.Repeat(string([]byte{byte(b), ' '}), 4)+"x")
		all = append(all, byte(b))
	}
	return append(list, string(all), strings.Repeat(" ", 100000), strings.Repeat("9", 100000), strings.Repeat("1 ", 50000), strings.Repeat("1 moved 3 2 282\n", 1000))
}

// eachRecordText calls check with each RecordText of good samples that is not empty.
func eachRecordText(t *testing.T, check func(line recordLine)) {
	t.Helper()
	some := 0
	for _, r := range slices.Concat(goodRecords(), badRecords()) {
		for place := -2; place <= 35; place++ {
			if s := impl.RecordText(place, r); s != "" {
				some++
				check(recordLine{s, place, r})
			}
		}
	}
	if some == 0 {
		t.Fatal("RecordText is always empty")
	}
}

// eachRecordFrom calls check with each RecordFrom of samples that succeeds.
func eachRecordFrom(t *testing.T, check func(line recordLine)) {
	t.Helper()
	lines := slices.Concat(sampleLines(), splicedLines(), wrongLines(), anyBytes())
	for i, r := range goodRecords() {
		lines = append(lines, withCheck(wantText(1+i%30, r)), withCheck(wantText(30-i%30, r)))
	}
	some := 0
	for _, s := range lines {
		if place, r, ok := impl.RecordFrom(s); ok {
			some++
			check(recordLine{s, place, r})
		}
	}
	if some == 0 {
		t.Fatal("RecordFrom never succeeds")
	}
}
