package tests

import (
	"slices"
	"sync"
	"testing"

	"loop.example/fanoutlog/impl"
)

// serverCall is a function of a server, with whatever else it is given.
type serverCall struct {
	what string
	call func(s impl.Server) (impl.Server, bool)
}

// serverCalls returns calls that succeed for some servers, or fail for all.
func serverCalls(s impl.Server) []serverCall {
	var calls []serverCall
	for _, r := range append(someOf(serverRecords(s), 5), postRecord(nextId(s), "ann"), postRecord(nextId(s), "bob"), followRecord("zz", "ann"), unfollowRecord("bob", "ann"), impl.Record{}) {
		calls = append(calls, serverCall{"ServerDo", func(s impl.Server) (impl.Server, bool) { return impl.ServerDo(s, r) }})
	}
	for _, author := range []string{"ann", "bob", "zed", "", "Ann"} {
		calls = append(calls, serverCall{"ServerPost", func(s impl.Server) (impl.Server, bool) { return impl.ServerPost(s, author) }})
	}
	for _, many := range []int{1, 2, 10, 0, -1} {
		calls = append(calls, serverCall{"ServerWork", func(s impl.Server) (impl.Server, bool) { return impl.ServerWork(s, many) }})
	}
	return calls
}

// memoryServers returns good and bad servers, but not all of them.
func memoryServers() []impl.Server {
	return append(fewServers(), someOf(badServers(), 40)...)
}

func TestServerCallsMemory(t *testing.T) {
	succeeded := map[string]int{}
	for _, s := range memoryServers() {
		for _, c := range serverCalls(s) {
			if checkServerMemory(t, c, s) {
				succeeded[c.what]++
			}
		}
	}
	if len(succeeded) != 3 {
		t.Fatalf("so many calls succeed: %v", succeeded)
	}
}

// checkServerMemory checks that a call leaves its argument as it is, and returns the same again in new memory, and reports whether it succeeds.
func checkServerMemory(t *testing.T, c serverCall, s impl.Server) bool {
	t.Helper()
	whole, s := roomyServer(s)
	before := wholeServer(whole)
	first, firstOk := c.call(s)
	want := cloneServer(first)
	second, secondOk := c.call(s)
	if firstOk != secondOk || !sameServer(first, second) || !firstOk && !sameServer(first, impl.Server{}) {
		t.Fatalf("%s of %v returned %v, and %v then", c.what, s, first, second)
	}
	overwriteServer(second)
	if !sameServer(wholeServer(whole), before) || !sameServer(first, want) {
		t.Fatalf("%s of %v changed its argument, or shares memory", c.what, before)
	}
	overwriteServer(whole)
	if !sameServer(first, want) {
		t.Fatalf("%s of %v: its result changes with its argument", c.what, before)
	}
	return firstOk
}

func TestServerNewMemory(t *testing.T) {
	for _, list := range memoryAccounts() {
		whole, list := roomyAccounts(list)
		before := wholeAccounts(whole)
		first, firstOk := impl.ServerNew(list)
		want := cloneServer(first)
		second, secondOk := impl.ServerNew(list)
		if firstOk != secondOk || !sameServer(first, second) {
			t.Fatalf("ServerNew(%v) returned %v, and %v then", list, first, second)
		}
		overwriteServer(second)
		if !sameAccounts(wholeAccounts(whole), before) || !sameServer(first, want) {
			t.Fatalf("ServerNew(%v) changed its argument, or shares memory", before)
		}
		overwriteAccounts(whole)
		if !sameServer(first, want) {
			t.Fatalf("ServerNew(%v): its result changes with its argument", before)
		}
	}
}

func TestServerRunMemory(t *testing.T) {
	for _, run := range someOf(runSamples(), 5) {
		whole, list := roomyAccounts(run.list)
		records, given := roomyRecords(run.records)
		before, recordsBefore := wholeAccounts(whole), slices.Clone(records)
		first, firstMany, firstOk := impl.ServerRun(list, given)
		want := cloneServer(first)
		second, secondMany, secondOk := impl.ServerRun(list, given)
		if firstOk != secondOk || firstMany != secondMany || !sameServer(first, second) {
			t.Fatalf("ServerRun(%v, %v) returned %v, and %v then", list, given, first, second)
		}
		overwriteServer(second)
		if !sameAccounts(wholeAccounts(whole), before) || !slices.Equal(records, recordsBefore) || !sameServer(first, want) {
			t.Fatalf("ServerRun(%v, %v) changed its arguments, or shares memory", before, recordsBefore)
		}
		overwriteAccounts(whole)
		overwriteRecords(records)
		if !sameServer(first, want) {
			t.Fatalf("ServerRun(%v, %v): its result changes with its arguments", before, recordsBefore)
		}
	}
}

// Parts of an argument may share memory with each other; those of a result may not.
func TestServerResultsOfSharedMemory(t *testing.T) {
	names, ids := slices.Clone(tenNames), idRow(36, 6)
	s := impl.Server{
		Accounts: []impl.Account{{Name: "x", Followers: names[:3]}, {Name: "y", Followers: names[:3]}, {Name: "z", Followers: names[3:6]}},
		Posts:    postRow(1, 5, "x"),
		Jobs:     []impl.Job{{Id: 3, To: names[:3]}, {Id: 4, To: names[:3]}, {Id: 5, To: names[2:6], Done: 1}},
		Boxes:    []impl.Box{{Name: "ann", Ids: ids[:3]}, {Name: "bob", Ids: ids[:3]}, {Name: "x", Ids: ids[3:6]}},
	}
	records := []impl.Record{postRecord(6, "x"), postRecord(6, "z"), movedRecord(3, 1), movedRecord(3, 3), movedRecord(4, 2), movedRecord(5, 4), followRecord("zz", "y"), unfollowRecord("bob", "y")}
	for _, r := range records {
		want, _ := wantServerDo(s, r)
		checkServerParts(t, want, func() (impl.Server, bool) { return impl.ServerDo(s, r) })
	}
	want, _ := wantServerPost(s, "y")
	checkServerParts(t, want, func() (impl.Server, bool) { return impl.ServerPost(s, "y") })
	want, _ = wantServerWork(s, 2)
	checkServerParts(t, want, func() (impl.Server, bool) { return impl.ServerWork(s, 2) })
	checkServerParts(t, impl.Server{Accounts: s.Accounts}, func() (impl.Server, bool) { return impl.ServerNew(s.Accounts) })
	run := []impl.Record{postRecord(1, "x"), postRecord(2, "y"), movedRecord(1, 2), followRecord("zz", "y"), postRecord(3, "y")}
	want, _ = wantServerRun(s.Accounts, run)
	checkServerParts(t, want, func() (impl.Server, bool) {
		got, happened, ok := impl.ServerRun(s.Accounts, run)
		return got, ok && happened == len(run)
	})
	if !slices.Equal(names, tenNames) || !slices.Equal(ids, idRow(36, 6)) {
		t.Fatalf("the argument has become %q and %v", names, ids)
	}
}

// A job and the followers for whom it is made are the same names, but not the same memory.
func TestServerJobsAreNotTheFollowersThemselves(t *testing.T) {
	for _, s := range fewServers() {
		s = cloneServer(s)
		for _, author := range []string{"ann", "bob", "zed"} {
			if want, ok := wantServerPost(s, author); ok {
				checkServerParts(t, want, func() (impl.Server, bool) { return impl.ServerPost(s, author) })
			}
		}
	}
}

// checkServerParts checks that no part of a result changes through another one.
func checkServerParts(t *testing.T, want impl.Server, call func() (impl.Server, bool)) {
	t.Helper()
	for at := range len(serverParts(want)) {
		result, ok := call()
		if !ok || !sameServer(result, want) {
			t.Fatalf("%v, %v is returned; want %v", result, ok, want)
		}
		changed := cloneServer(want)
		serverParts(result)[at]()
		serverParts(changed)[at]()
		if !sameServer(result, changed) {
			t.Fatalf("%v becomes %v with a change of its part %d", want, result, at)
		}
	}
}

// serverParts returns functions each of which changes one slice of a server, up to all that it has room for.
func serverParts(s impl.Server) []func() {
	parts := []func(){
		func() { overwritePosts(s.Posts) },
		func() { overwriteRecords(s.Log) },
		func() {
			list := s.Accounts[:cap(s.Accounts)]
			for i := range list {
				list[i] = account("over", "over")
			}
		},
		func() {
			list := s.Jobs[:cap(s.Jobs)]
			for i := range list {
				list[i] = job(-7, -7, "over")
			}
		},
		func() {
			list := s.Boxes[:cap(s.Boxes)]
			for i := range list {
				list[i] = box("over", 7)
			}
		},
	}
	for _, a := range s.Accounts {
		parts = append(parts, func() { overwrite(a.Followers) })
	}
	for _, j := range s.Jobs {
		parts = append(parts, func() { overwrite(j.To) })
	}
	for _, b := range s.Boxes {
		parts = append(parts, func() { overwriteIds(b.Ids) })
	}
	return parts
}

// A nil slice is as good as an empty one, in each part of a server and of what it has.
func TestServersNilAndEmpty(t *testing.T) {
	for _, s := range []impl.Server{{}, {Accounts: []impl.Account{account("ann"), account("bob", "ann")}}, {Accounts: pairAccounts(), Jobs: []impl.Job{{Id: 1}}}, {Boxes: []impl.Box{{Name: "a"}}}} {
		nils, empties := s, cloneServer(s)
		fillServer(&empties)
		for _, c := range serverCalls(s) {
			first, firstOk := c.call(nils)
			second, secondOk := c.call(empties)
			if firstOk != secondOk || !sameServer(first, second) {
				t.Fatalf("%s of %v returned %v, and %v for empty slices", c.what, s, first, second)
			}
		}
		checkServerNew(t, empties.Accounts, impl.Server{Accounts: nils.Accounts}, true)
		for _, records := range [][]impl.Record{nil, {}, {postRecord(1, "ann")}, {followRecord("ann", "bob")}} {
			want, happened := wantServerRun(nils.Accounts, records)
			checkServerRun(t, runSample{empties.Accounts, records}, want, happened, true)
		}
	}
}

// fillServer puts empty slices, some of them with room, for all that are nil in a server.
func fillServer(s *impl.Server) {
	fill(&s.Accounts)
	fill(&s.Posts)
	fill(&s.Jobs)
	fill(&s.Boxes)
	fill(&s.Log)
	for i := range s.Accounts {
		fill(&s.Accounts[i].Followers)
	}
	for i := range s.Jobs {
		fill(&s.Jobs[i].To)
	}
	for i := range s.Boxes {
		fill(&s.Boxes[i].Ids)
	}
}

func fill[T any](list *[]T) {
	if *list == nil {
		*list = make([]T, 0, 3)
	}
}

// No call depends on those ahead of it, nor on those that go on at the same time with the same server.
func TestServersKeepNoState(t *testing.T) {
	s, records := baseServer(), serverRecords(baseServer())
	var group sync.WaitGroup
	for range 8 {
		group.Go(func() {
			for _, r := range records {
				want, ok := wantServerDo(s, r)
				if got, gotOk := impl.ServerDo(s, r); gotOk != ok || !sameServer(got, want) {
					t.Errorf("ServerDo(%v, %+v) returned %v, %v; want %v, %v", s, r, got, gotOk, want, ok)
					return
				}
			}
		})
	}
	group.Wait()
	if !sameServer(s, baseServer()) {
		t.Fatalf("the server has become %v", s)
	}
}

// roomyServer returns a server with room behind each of its slices, and the same memory with this room,
// so that an append to a part of the argument can be noticed.
func roomyServer(s impl.Server) (impl.Server, impl.Server) {
	var whole impl.Server
	whole.Accounts, s.Accounts = roomyAccounts(s.Accounts)
	whole.Posts, s.Posts = roomyPosts(s.Posts)
	whole.Boxes, s.Boxes = roomyBoxes(s.Boxes)
	whole.Log, s.Log = roomyRecords(s.Log)
	for _, j := range append(slices.Clone(s.Jobs), job(7, 0, "room"), job(7, 0, "room")) {
		_, j = roomyJob(j)
		whole.Jobs = append(whole.Jobs, j)
	}
	s.Jobs = whole.Jobs[:len(s.Jobs)]
	return whole, s
}

// wholeServer returns a copy of a server, with all for which its names and numbers have room.
func wholeServer(s impl.Server) impl.Server {
	jobs := slices.Clone(s.Jobs)
	for i, j := range jobs {
		jobs[i].To = slices.Clone(j.To[:cap(j.To)])
	}
	return impl.Server{Accounts: wholeAccounts(s.Accounts), Posts: slices.Clone(s.Posts), Jobs: jobs, Boxes: wholeBoxes(s.Boxes), Log: slices.Clone(s.Log)}
}

// overwriteServer changes all for which a slice of a server has room.
func overwriteServer(s impl.Server) {
	overwriteAccounts(s.Accounts)
	overwritePosts(s.Posts)
	list := s.Jobs[:cap(s.Jobs)]
	for i := range list {
		overwrite(list[i].To)
		list[i] = job(-7, -7, "over")
	}
	overwriteBoxes(s.Boxes)
	overwriteRecords(s.Log)
}
