package tests

import (
	"slices"
	"strings"
	"testing"

	"loop.example/fanoutlog/impl"
)

func TestP57RecordFromTextIsThePlaceAndTheRecord(t *testing.T) {
	eachRecordText(t, func(line recordLine) {
		checkRecordFrom(t, line.s, line.place, line.r, true)
	})
}

func TestP58RecordFromIsValidAndItsTextIsTheLine(t *testing.T) {
	eachRecordFrom(t, func(line recordLine) {
		checkRecordValid(t, line.r, true)
		checkRecordText(t, line.place, line.r, line.s)
	})
}

func TestP59LineFailsWithALetterThatBecomesTheNextOne(t *testing.T) {
	eachRecordText(t, func(line recordLine) {
		for at := range len(line.s) {
			changed := []byte(line.s)
			changed[at]++
			checkNoRecord(t, string(changed))
		}
	})
}

func TestP60LineFailsWithoutTheLastLetterAndWithAFurtherZero(t *testing.T) {
	eachRecordFrom(t, func(line recordLine) {
		checkNoRecord(t, line.s[:len(line.s)-1])
		checkNoRecord(t, line.s+"0")
	})
}

func TestP61TextIsAnotherOneForTheNextPlace(t *testing.T) {
	last := 0
	eachRecordText(t, func(line recordLine) {
		next := impl.RecordText(line.place+1, line.r)
		if next == line.s {
			t.Errorf("RecordText of %d, and of the next place, and %+v returned %q", line.place, line.r, next)
		}
		if next == "" {
			last++
		}
	})
	if last != len(goodRecords()) {
		t.Errorf("%d lines have no next place; want one of each of %d records", last, len(goodRecords()))
	}
}

func TestP62ValidRecordIsInvalidWithNumberMinusOneAndWithKindZero(t *testing.T) {
	some := 0
	for _, r := range slices.Concat(goodRecords(), badRecords()) {
		if !impl.RecordValid(r) {
			continue
		}
		some++
		number, kind := r, r
		number.Id = -1
		kind.Kind = 0
		checkRecordValid(t, number, false)
		checkRecordValid(t, kind, false)
	}
	if some != len(goodRecords()) {
		t.Errorf("%d records are valid; want %d", some, len(goodRecords()))
	}
}

func TestP63TextHasFourBlanks(t *testing.T) {
	eachRecordText(t, func(line recordLine) {
		if strings.Count(line.s, " ") != 4 {
			t.Errorf("RecordText(%d, %+v) returned %q", line.place, line.r, line.s)
		}
	})
}
