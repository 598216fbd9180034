package tests

import (
	"slices"
	"testing"

	"loop.example/fanoutlog/impl"
)

func TestServerRunSamples(t *testing.T) {
	for _, run := range runSamples() {
		if _, ok := impl.ServerNew(cloneAccounts(run.list)); !ok {
			checkServerRun(t, run, impl.Server{}, 0, false)
			continue
		}
		want, happened := wantServerRun(run.list, run.records)
		checkServerRun(t, run, want, happened, true)
	}
}

func TestServerRunInvalidAccounts(t *testing.T) {
	for _, list := range badAccounts() {
		for _, records := range [][]impl.Record{nil, {}, {{}}, knownRecords(), {followRecord("bob", "ann"), postRecord(1, "ann")}} {
			checkServerRun(t, runSample{list, records}, impl.Server{}, 0, false)
		}
	}
}

func TestServerRunOfNoRecords(t *testing.T) {
	for _, list := range goodAccounts() {
		for _, none := range [][]impl.Record{nil, {}, knownRecords()[:0]} {
			got, happened, ok := impl.ServerRun(cloneAccounts(list), none)
			if !ok || happened != 0 || !sameServer(got, impl.Server{Accounts: list}) {
				t.Fatalf("ServerRun(%v) of no records returned %v, %d, %v", list, got, happened, ok)
			}
		}
	}
}

// The first record that can not happen is the end, also if those behind it could.
func TestServerRunUpToWhatCanNotHappen(t *testing.T) {
	records := []impl.Record{postRecord(1, "ann"), followRecord("dan", "ann"), movedRecord(1, 1), postRecord(2, "ann"), unfollowRecord("bob", "ann"), movedRecord(2, 3)}
	ahead := []string{
		"ann<bob,cat bob<|||",
		"ann<bob,cat bob<|1ann|1>bob,cat/0|",
		"ann<bob,cat,dan bob<|1ann|1>bob,cat/0|",
		"ann<bob,cat,dan bob<|1ann|1>bob,cat/1|bob=[1]",
		"ann<bob,cat,dan bob<|1ann 2ann|1>bob,cat/1 2>bob,cat,dan/0|bob=[1]",
		"ann<cat,dan bob<|1ann 2ann|1>bob,cat/1 2>bob,cat,dan/0|bob=[1]",
		"ann<cat,dan bob<|1ann 2ann|1>bob,cat/1|bob=[2 1] cat=[2] dan=[2]",
	}
	for at, want := range ahead {
		for _, bad := range impossibleRecords() {
			list := slices.Insert(slices.Clone(records), at, bad)
			got, happened, ok := impl.ServerRun(pairAccounts(), list)
			if !ok || happened != at || shortServer(got) != want || !slices.Equal(got.Log, records[:at]) {
				t.Fatalf("ServerRun with %+v at %d returned %v, %d, %v", bad, at, got, happened, ok)
			}
		}
		got, happened, ok := impl.ServerRun(pairAccounts(), records[:at])
		if !ok || happened != at || shortServer(got) != want {
			t.Fatalf("ServerRun of the first %d returned %v, %d, %v", at, got, happened, ok)
		}
	}
}

// What fails leaves nothing behind, even if a part of it could happen.
func TestServerRunLeavesNothingOfWhatFails(t *testing.T) {
	list := []impl.Account{account("ann", tenNames[1:]...), account("bob", "cat", "kim", "liz")}
	records := []impl.Record{postRecord(1, "ann"), movedRecord(1, 9), postRecord(2, "bob"), movedRecord(2, 3)}
	want, _ := wantServerRun(list, records[:3])
	checkServerRun(t, runSample{list, records}, want, 3, true)
	records = slices.Repeat([]impl.Record{postRecord(1, "ann")}, 8)
	for i := range records {
		records[i].Id += i
	}
	want, _ = wantServerRun(list, records[:6])
	if len(want.Posts) != 6 {
		t.Fatalf("the posts are %v", want.Posts)
	}
	checkServerRun(t, runSample{list, records}, want, 6, true)
}

// Of more than RecordsMax records, so many happen.
func TestServerRunHowMany(t *testing.T) {
	for many := range 70 {
		records := slices.Repeat([]impl.Record{followRecord("bob", "ann"), followRecord("dan", "ann"), unfollowRecord("dan", "ann")}, 30)[:many]
		got, happened, ok := impl.ServerRun(pairAccounts(), slices.Clone(records))
		if !ok || happened != min(many, 30) || !slices.Equal(got.Log, records[:min(many, 30)]) {
			t.Fatalf("of %d records %d happen: %v, %v", many, happened, got, ok)
		}
	}
	for _, list := range tooManyRecords() {
		want, happened := wantServerRun(pairAccounts(), list)
		checkServerRun(t, runSample{pairAccounts(), list}, want, happened, true)
	}
}

func checkServerRun(t *testing.T, run runSample, want impl.Server, wantHappened int, wantOk bool) {
	t.Helper()
	got, happened, ok := impl.ServerRun(cloneAccounts(run.list), slices.Clone(run.records))
	if ok != wantOk || happened != wantHappened || !sameServer(got, want) {
		t.Fatalf("ServerRun(%v, %.2000v) returned %v, %d, %v; want %v, %d, %v", run.list, run.records, got, happened, ok, want, wantHappened, wantOk)
	}
}
