package tests

import (
	"slices"
	"testing"

	"loop.example/fanoutlog/impl"
)

// doCase is what ServerDo is given, and what it has to return.
type doCase struct {
	s    impl.Server
	r    impl.Record
	want impl.Server
	ok   bool
}

// serverStep is a record, and what shortServer returns of the server behind it, or "" if it can not happen.
type serverStep struct {
	r    impl.Record
	want string
}

func TestServerNewSamples(t *testing.T) {
	for _, list := range goodAccounts() {
		checkServerNew(t, list, impl.Server{Accounts: list}, true)
	}
	for _, list := range badAccounts() {
		checkServerNew(t, list, impl.Server{}, false)
	}
}

func TestServerDoSamples(t *testing.T) {
	succeeded, failed := 0, 0
	for _, s := range goodServers() {
		for _, r := range serverRecords(s) {
			want, ok := wantServerDo(s, r)
			checkServerDo(t, doCase{s, r, want, ok})
			if ok {
				succeeded++
			} else {
				failed++
			}
		}
	}
	if succeeded < 1000 || failed < 1000 {
		t.Fatalf("ServerDo succeeds %d times, and fails %d times", succeeded, failed)
	}
}

func TestServerWithoutAccounts(t *testing.T) {
	for _, none := range [][]impl.Account{nil, {}, pairAccounts()[:0]} {
		s, ok := impl.ServerNew(none)
		if !ok || !sameServer(s, impl.Server{}) {
			t.Fatalf("ServerNew of none returned %v, %v", s, ok)
		}
		checkSteps(t, none, []serverStep{
			{postRecord(1, "ann"), ""},
			{movedRecord(1, 1), ""},
			{followRecord("bob", "ann"), ""},
			{unfollowRecord("bob", "ann"), ""},
		})
		for _, author := range slices.Concat(fewNames, badNames) {
			checkServerPost(t, impl.Server{Accounts: none}, author, impl.Server{}, false)
		}
		for _, many := range slices.Concat(goodManys, badManys) {
			checkServerWork(t, impl.Server{Accounts: none}, many, impl.Server{}, false)
		}
	}
}

// A post that nobody follows is a post like others, but nobody waits for it.
func TestServerAuthorsWithoutFollowers(t *testing.T) {
	list := append(pairAccounts(), account("cat", "ann"))
	checkSteps(t, list, []serverStep{
		{postRecord(1, "bob"), "ann<bob,cat bob< cat<ann|1bob||"},
		{movedRecord(1, 1), ""},
		{postRecord(2, "ann"), "ann<bob,cat bob< cat<ann|1bob 2ann|2>bob,cat/0|"},
		{postRecord(3, "bob"), "ann<bob,cat bob< cat<ann|1bob 2ann 3bob|2>bob,cat/0|"},
		{postRecord(4, "cat"), "ann<bob,cat bob< cat<ann|1bob 2ann 3bob 4cat|2>bob,cat/0 4>ann/0|"},
		{postRecord(5, "bob"), "ann<bob,cat bob< cat<ann|1bob 2ann 3bob 4cat 5bob|2>bob,cat/0 4>ann/0|"},
		{movedRecord(3, 1), ""},
		{movedRecord(5, 1), ""},
		{movedRecord(2, 2), "ann<bob,cat bob< cat<ann|1bob 2ann 3bob 4cat 5bob|4>ann/0|bob=[2] cat=[2]"},
		{unfollowRecord("ann", "cat"), "ann<bob,cat bob< cat<|1bob 2ann 3bob 4cat 5bob|4>ann/0|bob=[2] cat=[2]"},
		{postRecord(6, "cat"), "ann<bob,cat bob< cat<|1bob 2ann 3bob 4cat 5bob 6cat|4>ann/0|bob=[2] cat=[2]"},
		{movedRecord(4, 1), "ann<bob,cat bob< cat<|1bob 2ann 3bob 4cat 5bob 6cat||ann=[4] bob=[2] cat=[2]"},
		{followRecord("cat", "bob"), "ann<bob,cat bob<cat cat<|1bob 2ann 3bob 4cat 5bob 6cat||ann=[4] bob=[2] cat=[2]"},
		{movedRecord(5, 1), ""},
		{postRecord(7, "bob"), "ann<bob,cat bob<cat cat<|1bob 2ann 3bob 4cat 5bob 6cat 7bob|7>cat/0|ann=[4] bob=[2] cat=[2]"},
		{movedRecord(7, 1), "ann<bob,cat bob<cat cat<|1bob 2ann 3bob 4cat 5bob 6cat 7bob||ann=[4] bob=[2] cat=[7 2]"},
	})
}

func TestServerAuthorsWithoutAccounts(t *testing.T) {
	checkSteps(t, pairAccounts(), []serverStep{
		{postRecord(1, "cat"), ""},
		{postRecord(1, "zed"), ""},
		{postRecord(1, "an"), ""},
		{postRecord(1, "anna"), ""},
		{postRecord(1, "ann"), "ann<bob,cat bob<|1ann|1>bob,cat/0|"},
		{postRecord(2, "cat"), ""},
		{followRecord("bob", "cat"), ""},
		{unfollowRecord("bob", "cat"), ""},
		{followRecord("cat", "bob"), "ann<bob,cat bob<cat|1ann|1>bob,cat/0|"},
		{postRecord(2, "cat"), ""},
	})
}

func TestServerPostsMax(t *testing.T) {
	for _, author := range []string{"ann", "bob"} {
		s := impl.Server{Accounts: pairAccounts()}
		for id := 1; id <= 12; id++ {
			s = mustDo(t, s, postRecord(id, author))
			if author == "ann" {
				s = mustDo(t, s, movedRecord(id, 2))
			}
		}
		if len(s.Posts) != 12 || len(s.Jobs) != 0 {
			t.Fatalf("there are %d posts and %d jobs", len(s.Posts), len(s.Jobs))
		}
		for _, other := range []string{"ann", "bob"} {
			checkServerDo(t, doCase{s, postRecord(13, other), impl.Server{}, false})
			checkServerPost(t, s, other, impl.Server{}, false)
		}
		mustDo(t, s, followRecord("zed", "bob"))
	}
}

// One job more than JobsMax can not wait, but a post that goes to nobody can come.
func TestServerJobsMax(t *testing.T) {
	s := impl.Server{Accounts: pairAccounts()}
	for id := 1; id <= 6; id++ {
		s = mustDo(t, s, postRecord(id, "ann"))
	}
	if len(s.Jobs) != 6 {
		t.Fatalf("there are %d jobs", len(s.Jobs))
	}
	checkServerDo(t, doCase{s, postRecord(7, "ann"), impl.Server{}, false})
	checkServerPost(t, s, "ann", impl.Server{}, false)
	s = mustDo(t, s, postRecord(7, "bob"))
	checkServerDo(t, doCase{s, postRecord(8, "ann"), impl.Server{}, false})
	for id := 1; id <= 6; id++ {
		some := mustDo(t, s, movedRecord(id, 1))
		checkServerDo(t, doCase{some, postRecord(8, "ann"), impl.Server{}, false})
		fewer := mustDo(t, some, movedRecord(id, 2))
		full := mustDo(t, fewer, postRecord(8, "ann"))
		if len(fewer.Jobs) != 5 || len(full.Jobs) != 6 || full.Jobs[5].Id != 8 {
			t.Fatalf("the jobs are %v, and %v then", fewer.Jobs, full.Jobs)
		}
		checkServerDo(t, doCase{full, postRecord(9, "ann"), impl.Server{}, false})
		mustDo(t, full, postRecord(9, "bob"))
	}
}

// Behind RecordsMax records nothing can happen any more.
func TestServerRecordsMax(t *testing.T) {
	s := baseServer()
	s.Log = recordRow(0, 29)
	records := []impl.Record{postRecord(8, "ann"), postRecord(8, "bob"), movedRecord(2, 2), movedRecord(7, 2), followRecord("kim", "bob"), unfollowRecord("dan", "ann")}
	for _, r := range records {
		full := mustDo(t, s, r)
		if len(full.Log) != 30 || full.Log[29] != r {
			t.Fatalf("the log has become %+v", full.Log)
		}
		for _, more := range serverRecords(full) {
			checkServerDo(t, doCase{full, more, impl.Server{}, false})
		}
		for _, author := range []string{"ann", "bob", "zed"} {
			checkServerPost(t, full, author, impl.Server{}, false)
		}
		for _, many := range goodManys {
			checkServerWork(t, full, many, impl.Server{}, false)
		}
	}
}

// A post has the number behind that of the last one, or 1.
func TestServerPostNumbers(t *testing.T) {
	for _, posts := range append(someOf(goodPosts(), 9), nil, postRow(997, 1, "ann"), postRow(990, 9, "bob")) {
		s := baseServer()
		s.Posts, s.Jobs = posts, nil
		for id := -30; id <= 1030; id++ {
			want, ok := wantServerDo(s, postRecord(id, "ann"))
			checkServerDo(t, doCase{s, postRecord(id, "ann"), want, ok})
		}
	}
	checkSteps(t, pairAccounts(), []serverStep{
		{postRecord(0, "bob"), ""},
		{postRecord(2, "bob"), ""},
		{postRecord(1, "bob"), "ann<bob,cat bob<|1bob||"},
		{postRecord(0, "bob"), ""},
		{postRecord(1, "bob"), ""},
		{postRecord(3, "bob"), ""},
		{postRecord(2, "bob"), "ann<bob,cat bob<|1bob 2bob||"},
		{postRecord(1, "bob"), ""},
		{postRecord(2, "ann"), ""},
		{postRecord(4, "ann"), ""},
		{postRecord(3, "ann"), "ann<bob,cat bob<|1bob 2bob 3ann|3>bob,cat/0|"},
	})
}

// Behind the last number that there is, no post comes, even if there is room.
func TestServerLastNumber(t *testing.T) {
	s := baseServer()
	s.Posts = []impl.Post{post(998, "ann")}
	s = mustDo(t, s, postRecord(999, "bob"))
	for _, id := range []int{1, 998, 999, 1000} {
		checkServerDo(t, doCase{s, postRecord(id, "bob"), impl.Server{}, false})
	}
	checkServerPost(t, s, "bob", impl.Server{}, false)
}

// The numbers of jobs ascend, so that no job comes behind a greater number; a post that goes to nobody can.
func TestServerPostsBehindJobsOfGreaterNumbers(t *testing.T) {
	for _, id := range []int{7, 8, 9, 999} {
		s := baseServer()
		s.Jobs = []impl.Job{job(id, 1, "ann", "bob")}
		want, ok := wantServerDo(s, postRecord(8, "ann"))
		if ok != (id < 8) {
			t.Fatalf("the job 8 comes behind %d", id)
		}
		checkServerDo(t, doCase{s, postRecord(8, "ann"), want, ok})
		checkServerPost(t, s, "ann", want, ok)
		want, _ = wantServerDo(s, postRecord(8, "bob"))
		checkServerDo(t, doCase{s, postRecord(8, "bob"), want, true})
		checkServerPost(t, s, "bob", want, true)
	}
}

func checkServerNew(t *testing.T, list []impl.Account, want impl.Server, wantOk bool) {
	t.Helper()
	if got, ok := impl.ServerNew(cloneAccounts(list)); ok != wantOk || !sameServer(got, want) {
		t.Fatalf("ServerNew(%v) returned %v, %v; want %v, %v", list, got, ok, want, wantOk)
	}
}

func checkServerDo(t *testing.T, c doCase) {
	t.Helper()
	if got, ok := impl.ServerDo(cloneServer(c.s), c.r); ok != c.ok || !sameServer(got, c.want) {
		t.Fatalf("ServerDo(%.2000v, %+v) returned %v, %v; want %v, %v", c.s, c.r, got, ok, c.want, c.ok)
	}
}

// mustDo returns a server behind a record that has to happen, and does nothing but this and put it behind the log.
func mustDo(t *testing.T, s impl.Server, r impl.Record) impl.Server {
	t.Helper()
	behind, ok := impl.ServerDo(cloneServer(s), r)
	if !ok || !slices.Equal(behind.Log, append(slices.Clone(s.Log), r)) {
		t.Fatalf("ServerDo(%v, %+v) returned %v, %v", s, r, behind, ok)
	}
	return behind
}

// checkSteps lets records happen to a new server, and checks the server behind each one.
func checkSteps(t *testing.T, list []impl.Account, steps []serverStep) {
	t.Helper()
	s := impl.Server{Accounts: list}
	for i, step := range steps {
		if step.want == "" {
			checkServerDo(t, doCase{s, step.r, impl.Server{}, false})
			continue
		}
		s = mustDo(t, s, step.r)
		if got := shortServer(s); got != step.want {
			t.Fatalf("step %d, %+v, leads to %s; want %s", i, step.r, got, step.want)
		}
	}
}
