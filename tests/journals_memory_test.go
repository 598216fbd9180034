package tests

import (
	"slices"
	"strings"
	"testing"

	"loop.example/fanoutlog/impl"
)

func TestJournalTextMemory(t *testing.T) {
	for _, list := range slices.Concat(goodRecordLists(), badRecordLists()) {
		whole, list := roomyRecords(list)
		before := slices.Clone(whole)
		first := impl.JournalText(list)
		want := strings.Clone(first)
		second := impl.JournalText(list)
		if first != second || !slices.Equal(whole, before) {
			t.Errorf("JournalText changed %+v, or returned %q, and %q then", before[:min(len(list), 40)], first, second)
		}
		overwriteRecords(whole)
		if first != want {
			t.Errorf("JournalText returned %q, which changes with its argument to %q", want, first)
		}
	}
}

func TestJournalFromMemory(t *testing.T) {
	for _, text := range sampleTexts() {
		first, firstBytes, firstWhy := impl.JournalFrom(text)
		want := slices.Clone(first)
		second, secondBytes, secondWhy := impl.JournalFrom(text)
		if !slices.Equal(first, second) || firstBytes != secondBytes || firstWhy != secondWhy {
			t.Errorf("JournalFrom(%s) returned %+v, and %+v then", shortText(text), first, second)
		}
		overwriteRecords(second)
		if !slices.Equal(first, want) {
			t.Errorf("JournalFrom(%s): its results share memory", shortText(text))
		}
		third, _, _ := impl.JournalFrom(text)
		if !slices.Equal(third, want) {
			t.Errorf("JournalFrom(%s) returned %+v, and %+v behind a change of it", shortText(text), want, third)
		}
	}
}

// No call depends on those ahead of it.
func TestJournalsKeepNoState(t *testing.T) {
	bad := badRecordLists()
	for i, list := range goodRecordLists() {
		text := wantJournal(list)
		for range 2 {
			checkJournalText(t, bad[i%len(bad)], "")
			checkNoRecords(t, "x", impl.JournalTorn)
			checkJournalText(t, list, text)
			checkNoRecords(t, "\n"+text, impl.JournalBad)
			checkJournalFrom(t, journalRead{text, list, len(text), impl.JournalFine})
			checkNoRecords(t, "", impl.JournalFine)
		}
	}
}

// roomyRecords returns records with room behind them, and the same memory with this room,
// so that an append to the argument can be noticed.
func roomyRecords(list []impl.Record) ([]impl.Record, []impl.Record) {
	whole := append(slices.Clone(list), postRecord(7, "room"), postRecord(7, "room"), postRecord(7, "room"))
	return whole, whole[:len(list)]
}

// overwriteRecords changes all that a slice has room for.
func overwriteRecords(list []impl.Record) {
	list = list[:cap(list)]
	for i := range list {
		list[i] = postRecord(-7, "over")
	}
}
