package tests

import (
	"math"
	"slices"
	"testing"

	"loop.example/fanoutlog/impl"
)

func TestServerPostSamples(t *testing.T) {
	succeeded, failed := 0, 0
	for _, s := range goodServers() {
		for _, author := range append(slices.Clone(fewNames), "zed", "f", "", "Ann", "anna") {
			want, ok := wantServerPost(s, author)
			checkServerPost(t, s, author, want, ok)
			if ok {
				succeeded++
			} else {
				failed++
			}
		}
	}
	if succeeded == 0 || failed == 0 {
		t.Fatalf("ServerPost succeeds %d times, and fails %d times", succeeded, failed)
	}
}

func TestServerPostInvalidAuthors(t *testing.T) {
	for _, s := range fewServers() {
		for _, author := range badNames {
			checkServerPost(t, s, author, impl.Server{}, false)
		}
	}
}

// A post has the number behind that of the last post, also if there are few posts, or jobs of other numbers.
func TestServerPostNextNumbers(t *testing.T) {
	for id := 1; id <= 999; id++ {
		s := baseServer()
		s.Posts, s.Jobs = []impl.Post{post(id, "ann")}, []impl.Job{job(1, 0, "bob")}
		got, ok := impl.ServerPost(s, "zed")
		if ok != (id < 999) {
			t.Fatalf("ServerPost behind the number %d: %v", id, ok)
		}
		if ok && (got.Posts[1] != post(id+1, "zed") || got.Jobs[1].Id != id+1 || got.Log[4] != postRecord(id+1, "zed")) {
			t.Fatalf("ServerPost behind the number %d returned %v", id, got)
		}
	}
	first, ok := impl.ServerPost(impl.Server{Accounts: pairAccounts()}, "ann")
	if !ok || shortServer(first) != "ann<bob,cat bob<|1ann|1>bob,cat/0|" || !slices.Equal(first.Log, []impl.Record{postRecord(1, "ann")}) {
		t.Fatalf("the first ServerPost returned %v, %v", first, ok)
	}
}

func TestServerWorkSamples(t *testing.T) {
	succeeded, failed := 0, 0
	for _, s := range goodServers() {
		for _, many := range slices.Concat(goodManys, badManys) {
			want, ok := wantServerWork(s, many)
			checkServerWork(t, s, many, want, ok)
			if ok {
				succeeded++
			} else {
				failed++
			}
		}
	}
	if succeeded == 0 || failed == 0 {
		t.Fatalf("ServerWork succeeds %d times, and fails %d times", succeeded, failed)
	}
}

// The first job goes on to as many as told, to as many as are left, or to all that are left of far more, but not to none.
func TestServerWorkCases(t *testing.T) {
	s := baseServer()
	s.Jobs[0] = job(2, 1, "bob", "cat", "dan", "eve")
	const ahead, last = "ann<bob,cat,dan bob< zed<ann,kim|2ann 3bob 7zed|", "7>ann,kim/0"
	one := ahead + "2>bob,cat,dan,eve/2 " + last + "|bob=[2 1] cat=[2 1]"
	two := ahead + "2>bob,cat,dan,eve/3 " + last + "|bob=[2 1] cat=[2 1] dan=[2]"
	all := ahead + last + "|bob=[2 1] cat=[2 1] dan=[2] eve=[2]"
	for _, c := range []struct {
		many int
		want string
		done int
	}{{1, one, 2}, {2, two, 3}, {3, all, 4}, {4, all, 4}, {5, all, 4}, {10, all, 4}, {math.MaxInt32, all, 4}, {math.MaxInt - 1, all, 4}, {math.MaxInt, all, 4}} {
		got, ok := impl.ServerWork(cloneServer(s), c.many)
		if !ok || shortServer(got) != c.want || !slices.Equal(got.Log, append(slices.Clone(s.Log), movedRecord(2, c.done))) {
			t.Fatalf("ServerWork(%d) returned %v, %v; want %s", c.many, got, ok, c.want)
		}
	}
	for _, many := range append([]int{0}, badManys...) {
		checkServerWork(t, s, many, impl.Server{}, false)
	}
}

// All jobs are done one behind the other, whatever many is, and without jobs there is no work.
func TestServerWorkToTheEnd(t *testing.T) {
	list := []impl.Account{account("ann", tenNames[1:5]...), account("bob", "ann"), account("cat")}
	s, _ := wantServerRun(list, []impl.Record{postRecord(1, "ann"), postRecord(2, "cat"), postRecord(3, "bob"), postRecord(4, "ann")})
	want := []impl.Box{box("ann", 3), box("bob", 4, 1), box("cat", 4, 1), box("dan", 4, 1), box("eve", 4, 1)}
	for many, turns := range map[int]int{1: 9, 2: 5, 3: 5, 4: 3, 5: 3, 10: 3, math.MaxInt: 3} {
		now := s
		for turn := range turns {
			behind, ok := impl.ServerWork(cloneServer(now), many)
			if !ok || len(now.Jobs) == 0 {
				t.Fatalf("ServerWork(%v, %d) fails in turn %d", now, many, turn)
			}
			now = behind
		}
		if len(now.Jobs) != 0 || !sameBoxes(now.Boxes, want) || !slices.Equal(now.Posts, s.Posts) || !sameAccounts(now.Accounts, list) {
			t.Fatalf("ServerWork with %d leads to %v", many, now)
		}
		checkServerWork(t, now, many, impl.Server{}, false)
	}
}

func TestServerWorkWithoutJobs(t *testing.T) {
	for _, s := range goodServers() {
		s.Jobs = nil
		for _, many := range []int{0, 1, 10, math.MaxInt, -1} {
			checkServerWork(t, s, many, impl.Server{}, false)
		}
	}
}

func checkServerPost(t *testing.T, s impl.Server, author string, want impl.Server, wantOk bool) {
	t.Helper()
	if got, ok := impl.ServerPost(cloneServer(s), author); ok != wantOk || !sameServer(got, want) {
		t.Fatalf("ServerPost(%.2000v, %.100q) returned %v, %v; want %v, %v", s, author, got, ok, want, wantOk)
	}
}

func checkServerWork(t *testing.T, s impl.Server, many int, want impl.Server, wantOk bool) {
	t.Helper()
	if got, ok := impl.ServerWork(cloneServer(s), many); ok != wantOk || !sameServer(got, want) {
		t.Fatalf("ServerWork(%.2000v, %d) returned %v, %v; want %v, %v", s, many, got, ok, want, wantOk)
	}
}
