package tests

import (
	"slices"
	"testing"

	"loop.example/fanoutlog/impl"
)

func TestJournalConstants(t *testing.T) {
	if whys := []int{impl.JournalFine, impl.JournalTorn, impl.JournalBad}; !slices.Equal(whys, []int{0, 1, 2}) {
		t.Errorf("reasons are %v", whys)
	}
}

func TestJournalTextKnown(t *testing.T) {
	checkJournalText(t, knownRecords(), knownJournal)
	checkJournalText(t, []impl.Record{movedRecord(3, 2)}, "1 moved 3 2 282\n")
	checkJournalText(t, []impl.Record{movedRecord(17, 8), postRecord(1, "a")}, "1 moved 17 8 0\n2 post 1 a 51\n")
}

func TestJournalTextSamples(t *testing.T) {
	for _, list := range goodRecordLists() {
		checkJournalText(t, list, wantJournal(list))
	}
	for _, r := range goodRecords() {
		checkJournalText(t, []impl.Record{r}, wantJournal([]impl.Record{r}))
	}
}

func TestJournalTextOfNoRecords(t *testing.T) {
	for _, none := range [][]impl.Record{nil, {}, make([]impl.Record, 0, 5), knownRecords()[:0]} {
		checkJournalText(t, none, "")
	}
}

// RecordsMax records have a journal, and one more has none.
func TestJournalTextHowMany(t *testing.T) {
	for many := range 100 {
		for _, list := range [][]impl.Record{recordRow(0, many), slices.Repeat([]impl.Record{postRecord(7, "bob")}, many)} {
			want := ""
			if many <= 30 {
				want = wantJournal(list)
			}
			checkJournalText(t, list, want)
		}
	}
	for _, list := range tooManyRecords() {
		checkJournalText(t, list, "")
	}
}

func TestJournalTextInvalid(t *testing.T) {
	for _, list := range badRecordLists() {
		checkJournalText(t, list, "")
	}
}

// One invalid record is enough, at any place.
func TestJournalTextInvalidAnywhere(t *testing.T) {
	bad := []impl.Record{{}, postRecord(0, "ann"), postRecord(1000, "ann"), postRecord(7, "Ann"), movedRecord(7, 11), followRecord("ann", "ann"), unfollowRecord("ann", ""), {Kind: 5, Id: 7, Who: "ann"}}
	for _, good := range goodRecordLists() {
		for at := range good {
			list := slices.Clone(good)
			list[at] = bad[at%len(bad)]
			checkJournalText(t, list, "")
		}
		checkJournalText(t, append(slices.Clone(good), bad[len(good)%len(bad)]), "")
	}
}

// What records tell of does not have to be able to happen: they are valid by themselves.
func TestJournalTextOfWhatCanNotHappen(t *testing.T) {
	for _, list := range [][]impl.Record{
		{movedRecord(9, 10), movedRecord(9, 1)},
		{postRecord(9, "zed"), postRecord(9, "zed"), postRecord(1, "zed")},
		{unfollowRecord("bob", "ann"), unfollowRecord("bob", "ann"), followRecord("bob", "ann"), followRecord("bob", "ann")},
	} {
		checkJournalText(t, list, wantJournal(list))
		checkJournalFrom(t, journalRead{wantJournal(list), list, len(wantJournal(list)), impl.JournalFine})
	}
}

func checkJournalText(t *testing.T, list []impl.Record, want string) {
	t.Helper()
	if got := impl.JournalText(list); got != want {
		t.Errorf("JournalText of %d records %+v returned %q; want %q", len(list), list[:min(len(list), 40)], got, want)
	}
}
