package tests

import (
	"slices"
	"testing"

	"loop.example/fanoutlog/impl"
)

// What moved may be of any job, but not of one that is gone, nor of one that never was.
func TestServerMovedJobs(t *testing.T) {
	list := []impl.Account{account("ann", "bob", "cat"), account("bob", "ann"), account("cat")}
	const start = "ann<bob,cat bob<ann cat<|1ann 2bob 3cat 4ann"
	checkSteps(t, list, []serverStep{
		{movedRecord(1, 1), ""},
		{postRecord(1, "ann"), "ann<bob,cat bob<ann cat<|1ann|1>bob,cat/0|"},
		{postRecord(2, "bob"), "ann<bob,cat bob<ann cat<|1ann 2bob|1>bob,cat/0 2>ann/0|"},
		{postRecord(3, "cat"), "ann<bob,cat bob<ann cat<|1ann 2bob 3cat|1>bob,cat/0 2>ann/0|"},
		{postRecord(4, "ann"), start + "|1>bob,cat/0 2>ann/0 4>bob,cat/0|"},
		{movedRecord(3, 1), ""},
		{movedRecord(5, 1), ""},
		{movedRecord(999, 1), ""},
		{movedRecord(4, 1), start + "|1>bob,cat/0 2>ann/0 4>bob,cat/1|bob=[4]"},
		{movedRecord(2, 1), start + "|1>bob,cat/0 4>bob,cat/1|ann=[2] bob=[4]"},
		{movedRecord(2, 1), ""},
		{movedRecord(2, 2), ""},
		{movedRecord(1, 1), start + "|1>bob,cat/1 4>bob,cat/1|ann=[2] bob=[4 1]"},
		{movedRecord(4, 2), start + "|1>bob,cat/1|ann=[2] bob=[4 1] cat=[4]"},
		{movedRecord(4, 2), ""},
		{movedRecord(4, 3), ""},
		{movedRecord(1, 2), start + "||ann=[2] bob=[4 1] cat=[4 1]"},
		{movedRecord(1, 1), ""},
		{movedRecord(1, 2), ""},
		{postRecord(5, "bob"), start + " 5bob|5>ann/0|ann=[2] bob=[4 1] cat=[4 1]"},
		{movedRecord(1, 1), ""},
		{movedRecord(5, 1), start + " 5bob||ann=[5 2] bob=[4 1] cat=[4 1]"},
	})
}

// As many names as before, fewer, or more than there are can not be done then; one more, some more and all can.
func TestServerMovedCounts(t *testing.T) {
	for names := 1; names <= 10; names++ {
		for before := range names {
			s := baseServer()
			s.Jobs = []impl.Job{job(2, 0, "bob"), job(5, before, tenNames[:names]...), job(7, 0, "bob")}
			for done := -12; done <= 24; done++ {
				got, ok := impl.ServerDo(s, movedRecord(5, done))
				if ok != (done > before && done <= names) {
					t.Fatalf("of %d names, %d are done, and %d then: %v", names, before, done, ok)
				}
				if !ok {
					continue
				}
				jobs := []impl.Job{job(2, 0, "bob"), job(5, done, tenNames[:names]...), job(7, 0, "bob")}
				if done == names {
					jobs = slices.Delete(jobs, 1, 2)
				}
				if !sameJobs(got.Jobs, jobs) {
					t.Fatalf("of %d names, %d are done, and %d then: %v", names, before, done, got.Jobs)
				}
			}
		}
	}
}

// The first, a middle and the last job can be done with all others waiting.
func TestServerMovedPlaces(t *testing.T) {
	for many := 1; many <= 6; many++ {
		for at := range many {
			s := baseServer()
			s.Jobs = sixJobs(3)[:many]
			some, all := cloneJobs(s.Jobs), slices.Delete(cloneJobs(s.Jobs), at, at+1)
			some[at].Done = 1
			if got := mustDo(t, s, movedRecord(3+at, 1)); !sameJobs(got.Jobs, some) || !sameBoxes(got.Boxes, []impl.Box{box("bob", insertedId(3+at)...), box("cat", 1)}) {
				t.Fatalf("of %v one name of the job %d leads to %v", s.Jobs, at, got)
			}
			if got := mustDo(t, s, movedRecord(3+at, 2)); !sameJobs(got.Jobs, all) || !sameBoxes(got.Boxes, []impl.Box{box("bob", insertedId(3+at)...), box("cat", 3+at, 1)}) {
				t.Fatalf("of %v all names of the job %d lead to %v", s.Jobs, at, got)
			}
		}
	}
}

// insertedId returns the numbers of the box of bob in baseServer with a greater one.
func insertedId(id int) []int {
	return []int{id, 2, 1}
}

// Who follows when a post is made gets it, whatever happens to followers while it waits.
func TestServerFollowersChangeWhileAJobWaits(t *testing.T) {
	checkSteps(t, pairAccounts(), []serverStep{
		{postRecord(1, "ann"), "ann<bob,cat bob<|1ann|1>bob,cat/0|"},
		{followRecord("dan", "ann"), "ann<bob,cat,dan bob<|1ann|1>bob,cat/0|"},
		{unfollowRecord("bob", "ann"), "ann<cat,dan bob<|1ann|1>bob,cat/0|"},
		{followRecord("aa", "ann"), "ann<aa,cat,dan bob<|1ann|1>bob,cat/0|"},
		{postRecord(2, "ann"), "ann<aa,cat,dan bob<|1ann 2ann|1>bob,cat/0 2>aa,cat,dan/0|"},
		{movedRecord(1, 1), "ann<aa,cat,dan bob<|1ann 2ann|1>bob,cat/1 2>aa,cat,dan/0|bob=[1]"},
		{unfollowRecord("cat", "ann"), "ann<aa,dan bob<|1ann 2ann|1>bob,cat/1 2>aa,cat,dan/0|bob=[1]"},
		{unfollowRecord("aa", "ann"), "ann<dan bob<|1ann 2ann|1>bob,cat/1 2>aa,cat,dan/0|bob=[1]"},
		{unfollowRecord("dan", "ann"), "ann< bob<|1ann 2ann|1>bob,cat/1 2>aa,cat,dan/0|bob=[1]"},
		{postRecord(3, "ann"), "ann< bob<|1ann 2ann 3ann|1>bob,cat/1 2>aa,cat,dan/0|bob=[1]"},
		{movedRecord(1, 3), ""},
		{movedRecord(1, 2), "ann< bob<|1ann 2ann 3ann|2>aa,cat,dan/0|bob=[1] cat=[1]"},
		{movedRecord(2, 3), "ann< bob<|1ann 2ann 3ann||aa=[2] bob=[1] cat=[2 1] dan=[2]"},
	})
}

// A follow that is there already happens, but the end of one that is not can not.
func TestServerFollowsThatAreThereAlready(t *testing.T) {
	checkSteps(t, pairAccounts(), []serverStep{
		{followRecord("bob", "ann"), "ann<bob,cat bob<|||"},
		{followRecord("bob", "ann"), "ann<bob,cat bob<|||"},
		{followRecord("ann", "bob"), "ann<bob,cat bob<ann|||"},
		{followRecord("ann", "bob"), "ann<bob,cat bob<ann|||"},
		{unfollowRecord("ann", "bob"), "ann<bob,cat bob<|||"},
		{unfollowRecord("ann", "bob"), ""},
		{unfollowRecord("dan", "ann"), ""},
		{unfollowRecord("dan", "bob"), ""},
		{followRecord("ann", "ann"), ""},
		{unfollowRecord("ann", "ann"), ""},
		{followRecord("dan", "ann"), "ann<bob,cat,dan bob<|||"},
		{unfollowRecord("bob", "ann"), "ann<cat,dan bob<|||"},
		{unfollowRecord("bob", "ann"), ""},
		{followRecord("bob", "dan"), ""},
		{unfollowRecord("bob", "dan"), ""},
	})
}

// More followers than NamesMax there can not be, but one that is there may follow again.
func TestServerFollowersMax(t *testing.T) {
	s := impl.Server{Accounts: []impl.Account{account("zed", tenNames...)}}
	checkServerDo(t, doCase{s, followRecord("kim", "zed"), impl.Server{}, false})
	want := cloneServer(s)
	want.Log = []impl.Record{followRecord("ann", "zed")}
	checkServerDo(t, doCase{s, followRecord("ann", "zed"), want, true})
	mustDo(t, mustDo(t, s, unfollowRecord("ann", "zed")), followRecord("kim", "zed"))
}

// A post that can not come into all boxes that are told comes into none of them: one more than NamesMax can not begin.
func TestServerMovedBoxesMax(t *testing.T) {
	list := []impl.Account{account("ann", tenNames[1:]...), account("bob", "cat", "kim", "liz")}
	s := mustDo(t, impl.Server{Accounts: list}, postRecord(1, "ann"))
	s = mustDo(t, mustDo(t, s, movedRecord(1, 9)), postRecord(2, "bob"))
	for _, done := range []int{3, 4} {
		checkServerDo(t, doCase{s, movedRecord(2, done), impl.Server{}, false})
	}
	checkServerWork(t, s, 3, impl.Server{}, false)
	checkServerWork(t, s, 1000, impl.Server{}, false)
	s = mustDo(t, s, movedRecord(2, 2))
	if len(s.Boxes) != 10 || !slices.Equal(idsOfBox(s.Boxes, "kim"), []int{2}) || !slices.Equal(idsOfBox(s.Boxes, "cat"), []int{2, 1}) {
		t.Fatalf("the boxes are %v", s.Boxes)
	}
	checkServerDo(t, doCase{s, movedRecord(2, 3), impl.Server{}, false})
	checkServerWork(t, s, 1, impl.Server{}, false)
	mustDo(t, s, postRecord(3, "ann"))
}

// A box that is full loses its least number, or stays as it is.
func TestServerMovedFullBoxes(t *testing.T) {
	s := baseServer()
	s.Boxes = []impl.Box{box("ann", 60, 50, 40, 30, 20, 10), box("kim", 9, 7, 6, 5, 4, 3)}
	got := mustDo(t, s, movedRecord(7, 2))
	if !sameBoxes(got.Boxes, s.Boxes) || !sameJobs(got.Jobs, s.Jobs[:1]) {
		t.Fatalf("%v leads to %v", s, got)
	}
	s.Boxes = []impl.Box{box("ann", 6, 5, 4, 3, 2, 1), box("kim", 9, 8, 6, 5, 4, 3)}
	got = mustDo(t, s, movedRecord(7, 2))
	if !sameBoxes(got.Boxes, []impl.Box{box("ann", 7, 6, 5, 4, 3, 2), box("kim", 9, 8, 7, 6, 5, 4)}) {
		t.Fatalf("%v leads to %v", s, got)
	}
}
