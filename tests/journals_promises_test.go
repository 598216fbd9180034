package tests

import (
	"slices"
	"strings"
	"testing"

	"loop.example/fanoutlog/impl"
)

func TestP64JournalFromTextIsTheRecordsAllBytesAndFine(t *testing.T) {
	valid := 0
	for _, list := range slices.Concat(goodRecordLists(), badRecordLists()) {
		if len(list) > impl.RecordsMax || slices.ContainsFunc(list, func(r impl.Record) bool { return !impl.RecordValid(r) }) {
			continue
		}
		valid++
		text := impl.JournalText(slices.Clone(list))
		checkJournalFrom(t, journalRead{text, list, len(text), impl.JournalFine})
	}
	if valid != len(goodRecordLists()) {
		t.Errorf("%d lists are valid; want %d", valid, len(goodRecordLists()))
	}
}

func TestP65JournalWithoutTheLastByteIsTornAheadOfTheLastRecord(t *testing.T) {
	eachJournalText(t, func(list []impl.Record, text string) {
		got, _, why := impl.JournalFrom(text[:len(text)-1])
		if !slices.Equal(got, list[:len(list)-1]) || why != impl.JournalTorn {
			t.Errorf("JournalFrom(%q) returned %+v and %d", text[:len(text)-1], got, why)
		}
	})
}

func TestP66BeginningOfJournalIsFirstRecordsAndNotBad(t *testing.T) {
	eachJournalText(t, func(list []impl.Record, text string) {
		for end := range len(text) + 1 {
			got, _, why := impl.JournalFrom(text[:end])
			if len(got) > len(list) || !slices.Equal(got, list[:len(got)]) || why == impl.JournalBad {
				t.Errorf("JournalFrom(%q) returned %+v and %d", text[:end], got, why)
			}
		}
	})
}

func TestP67TextOfTheRecordsIsTheFirstBytes(t *testing.T) {
	eachJournalFrom(t, func(read journalRead) {
		if read.bytes < 0 || read.bytes > len(read.text) {
			t.Fatalf("JournalFrom(%.400q) returned %d bytes", read.text, read.bytes)
		}
		checkJournalText(t, read.list, read.text[:read.bytes])
	})
}

func TestP68FineExactlyIfAllBytesAreThoseOfRecords(t *testing.T) {
	eachJournalFrom(t, func(read journalRead) {
		if (read.why == impl.JournalFine) != (read.bytes == len(read.text)) {
			t.Errorf("JournalFrom(%.400q) returned %d bytes of %d and %d", read.text, read.bytes, len(read.text), read.why)
		}
	})
}

func TestP69FineWithTheNextLineIsOneRecordMore(t *testing.T) {
	room, full := 0, 0
	eachJournalFrom(t, func(read journalRead) {
		if read.why != impl.JournalFine {
			return
		}
		for _, r := range oneOfEachKind() {
			if len(read.list) == impl.RecordsMax {
				full++
				checkJournalFrom(t, journalRead{read.text + withCheck(wantText(31, r)) + "\n", read.list, read.bytes, impl.JournalBad})
				continue
			}
			room++
			text := read.text + impl.RecordText(len(read.list)+1, r) + "\n"
			checkJournalFrom(t, journalRead{text, append(slices.Clone(read.list), r), len(text), impl.JournalFine})
		}
	})
	if room == 0 || full == 0 {
		t.Errorf("there is room %d times, and none %d times", room, full)
	}
}

func TestP70JournalBeginsWithThatOfFirstRecords(t *testing.T) {
	eachJournalText(t, func(list []impl.Record, text string) {
		for many := range len(list) + 1 {
			first := impl.JournalText(slices.Clone(list[:many]))
			if !strings.HasPrefix(text, first) || (first == "") != (many == 0) {
				t.Errorf("JournalText of the first %d of %+v returned %q", many, list, first)
			}
		}
	})
}

func TestP71JournalHasAsManyNewlinesAsRecordsAndEndsWithOne(t *testing.T) {
	eachJournalText(t, func(list []impl.Record, text string) {
		if strings.Count(text, "\n") != len(list) || !strings.HasSuffix(text, "\n") {
			t.Errorf("JournalText(%+v) returned %q", list, text)
		}
	})
}
