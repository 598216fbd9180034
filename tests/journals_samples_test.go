package tests

import (
	"slices"
	"strings"
	"testing"

	"loop.example/fanoutlog/impl"
)

// knownJournal is a journal whose checks were computed apart from the program and from wantCheck.
const knownJournal = "1 post 1 ann 795\n2 post 1 a 51\n3 follow cat bob 757\n4 unfollow ann anna 799\n"

// knownRecords are the records of knownJournal.
func knownRecords() []impl.Record {
	return []impl.Record{postRecord(1, "ann"), postRecord(1, "a"), followRecord("cat", "bob"), unfollowRecord("ann", "anna")}
}

// journalRead is a text, and what JournalFrom returns of it.
type journalRead struct {
	text  string
	list  []impl.Record
	bytes int
	why   int
}

// recordRow returns so many records of all kinds, from one of the good ones on.
func recordRow(from, many int) []impl.Record {
	good := goodRecords()
	var list []impl.Record
	for i := range many {
		list = append(list, good[(from+37*i)%len(good)])
	}
	return list
}

// goodRecordLists returns as many records as a journal may have, from none to RecordsMax, of one kind or of all.
func goodRecordLists() [][]impl.Record {
	lists := [][]impl.Record{nil, {}, knownRecords(), oneOfEachKind()}
	for many := 1; many <= 30; many++ {
		for _, r := range oneOfEachKind() {
			lists = append(lists, slices.Repeat([]impl.Record{r}, many))
		}
		lists = append(lists, recordRow(0, many), recordRow(11*many, many))
	}
	return lists
}

// fewRecordLists returns some good lists, for tests that do a lot with each one.
func fewRecordLists() [][]impl.Record {
	return [][]impl.Record{recordRow(3, 1), knownRecords(), recordRow(5, 11), recordRow(0, 30)}
}

// badRecordLists returns too many records, and an invalid one at the first, a middle and the last place.
func badRecordLists() [][]impl.Record {
	lists := tooManyRecords()
	for _, bad := range badRecords() {
		for _, many := range []int{1, 2, 3, 9, 30, 31} {
			for _, at := range []int{0, many / 2, many - 1} {
				list := recordRow(many, many)
				list[at] = bad
				lists = append(lists, list)
			}
		}
		lists = append(lists, slices.Repeat([]impl.Record{bad}, 30))
	}
	return lists
}

// tooManyRecords returns lists of more than RecordsMax valid records.
func tooManyRecords() [][]impl.Record {
	var lists [][]impl.Record
	for _, many := range []int{31, 32, 33, 60, 61, 100, 256, 286, 1000, 65536} {
		lists = append(lists, recordRow(1, many), slices.Repeat([]impl.Record{movedRecord(3, 2)}, many))
	}
	return lists
}

// linesOf returns the lines of good records with their newlines, from a place on, without the program's help.
// There may be more of them than a journal has.
func linesOf(from int, list []impl.Record) []string {
	var lines []string
	for i, r := range list {
		lines = append(lines, withCheck(wantText(from+i, r))+"\n")
	}
	return lines
}

// wantJournal returns what JournalText of good records has to return, without the program's help.
func wantJournal(list []impl.Record) string {
	return strings.Join(linesOf(1, list), "")
}

// wantRead returns what JournalFrom has to return, without the program's help.
func wantRead(text string) journalRead {
	read := journalRead{text: text}
	lines := strings.SplitAfter(text, "\n")
	for _, line := range lines[:len(lines)-1] {
		place, r, ok := wantFrom(strings.TrimSuffix(line, "\n"))
		if !ok || place != len(read.list)+1 {
			read.why = 2
			return read
		}
		read.list = append(read.list, r)
		read.bytes += len(line)
	}
	if lines[len(lines)-1] != "" {
		read.why = 1
	}
	return read
}

// sampleTexts returns journals, beginnings of them, and texts that have lines which are none.
func sampleTexts() []string {
	texts := slices.Concat(anyBytes(), wrongPlaceTexts(), tooLongTexts(), splicedTexts())
	for _, list := range goodRecordLists() {
		text := wantJournal(list)
		texts = append(texts, text, text[:len(text)/2], text+"\n", "\n"+text, text+text, text+"x", text+"x\n", strings.ReplaceAll(text, "\n", "\r\n"))
	}
	for _, line := range slices.Concat(wrongLines(), sampleLines()) {
		texts = append(texts, line, line+"\n", knownJournal+line, knownJournal+line+"\n", line+"\n"+knownJournal)
	}
	return texts
}

// wrongPlaceTexts returns lines of right records of which the place of one at least is wrong.
func wrongPlaceTexts() []string {
	var texts []string
	for _, list := range fewRecordLists() {
		lines := linesOf(1, list)
		for i := range lines {
			twice := slices.Insert(slices.Clone(lines), i, lines[i])
			texts = append(texts, strings.Join(twice, ""))
			if i < len(lines)-1 {
				texts = append(texts, strings.Join(slices.Delete(slices.Clone(lines), i, i+1), ""))
			}
			if i > 0 {
				swapped := slices.Clone(lines)
				swapped[i-1], swapped[i] = swapped[i], swapped[i-1]
				texts = append(texts, strings.Join(swapped, ""))
			}
		}
		for _, from := range []int{-1, 0, 2, 3, 10, 11, 30, 31} {
			texts = append(texts, strings.Join(linesOf(from, list), ""))
		}
	}
	return texts
}

// tooLongTexts returns texts of more lines than a journal has.
func tooLongTexts() []string {
	var texts []string
	for _, many := range []int{31, 32, 60, 100, 1000} {
		text := wantJournal(recordRow(0, many))
		texts = append(texts, text, text[:len(text)-1])
	}
	return texts
}

// splicedTexts returns all beginnings of some journals with all ends of others behind them.
func splicedTexts() []string {
	journals := []string{knownJournal, "1 moved 3 2 282\n2 post 1 a 51\n", wantJournal(slices.Repeat([]impl.Record{movedRecord(1, 1)}, 3))}
	var texts []string
	for _, a := range journals {
		for _, b := range journals {
			for i := range len(a) + 1 {
				for k := range len(b) + 1 {
					texts = append(texts, a[:i]+b[k:])
				}
			}
		}
	}
	return texts
}

// eachJournalText calls check with each JournalText of samples that is not empty.
func eachJournalText(t *testing.T, check func(list []impl.Record, text string)) {
	t.Helper()
	some := 0
	for _, list := range slices.Concat(goodRecordLists(), badRecordLists()) {
		if text := impl.JournalText(slices.Clone(list)); text != "" {
			some++
			check(list, text)
		}
	}
	if some == 0 {
		t.Fatal("JournalText is always empty")
	}
}

// eachJournalFrom calls check with each JournalFrom of samples, of which there are some for each reason.
func eachJournalFrom(t *testing.T, check func(read journalRead)) {
	t.Helper()
	whys := map[int]int{}
	some := 0
	for _, text := range sampleTexts() {
		list, bytes, why := impl.JournalFrom(text)
		check(journalRead{text, list, bytes, why})
		whys[why]++
		some += len(list)
	}
	if some == 0 || len(whys) != 3 || whys[0] == 0 || whys[1] == 0 || whys[2] == 0 {
		t.Fatalf("there are %d records, and so many texts for each reason: %v", some, whys)
	}
}
