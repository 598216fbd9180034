package tests

import (
	"fmt"
	"slices"
	"strings"
	"sync"
	"testing"

	"loop.example/fanoutlog/impl"
)

func cloneJobs(list []impl.Job) []impl.Job {
	result := slices.Clone(list)
	for i := range result {
		result[i] = cloneJob(result[i])
	}
	return result
}

func sameJobs(a, b []impl.Job) bool {
	return slices.EqualFunc(a, b, sameJob)
}

func cloneServer(s impl.Server) impl.Server {
	return impl.Server{Accounts: cloneAccounts(s.Accounts), Posts: slices.Clone(s.Posts), Jobs: cloneJobs(s.Jobs), Boxes: cloneBoxes(s.Boxes), Log: slices.Clone(s.Log)}
}

func sameServer(a, b impl.Server) bool {
	return sameAccounts(a.Accounts, b.Accounts) && slices.Equal(a.Posts, b.Posts) && sameJobs(a.Jobs, b.Jobs) && sameBoxes(a.Boxes, b.Boxes) && slices.Equal(a.Log, b.Log)
}

// shortServer returns all of a server but its log, as it is written by hand in tests.
func shortServer(s impl.Server) string {
	var accounts, posts, jobs, boxes []string
	for _, a := range s.Accounts {
		accounts = append(accounts, a.Name+"<"+strings.Join(a.Followers, ","))
	}
	for _, p := range s.Posts {
		posts = append(posts, fmt.Sprintf("%d%s", p.Id, p.Author))
	}
	for _, j := range s.Jobs {
		jobs = append(jobs, fmt.Sprintf("%d>%s/%d", j.Id, strings.Join(j.To, ","), j.Done))
	}
	for _, b := range s.Boxes {
		boxes = append(boxes, fmt.Sprintf("%s=%v", b.Name, b.Ids))
	}
	parts := []string{strings.Join(accounts, " "), strings.Join(posts, " "), strings.Join(jobs, " "), strings.Join(boxes, " ")}
	return strings.Join(parts, "|")
}

// pairAccounts are an account that others follow, and one that nobody follows.
func pairAccounts() []impl.Account {
	return []impl.Account{account("ann", "bob", "cat"), account("bob")}
}

// serverAccounts returns the accounts of servers from which walks begin.
func serverAccounts() [][]impl.Account {
	return [][]impl.Account{
		nil,
		{account("ann")},
		pairAccounts(),
		{account("ann", "bob", "cat", "dan"), account("bob", "ann"), account("cat"), account("zed", tenNames...)},
		{account("ann", tenNames[1:]...), account("kim", "liz", "max", "zzzz")},
		{account("a", "b"), account("b", "a", "c"), account("c", "a", "b", "d"), account("d", "zz"), account("e"), account("f", "a", "b", "c", "d", "e")},
	}
}

// wantServerDo returns what ServerDo of a good server has to return, without the program's help.
func wantServerDo(s impl.Server, r impl.Record) (impl.Server, bool) {
	if !wantRecordValid(r) || len(s.Log) == 30 {
		return impl.Server{}, false
	}
	want := cloneServer(s)
	want.Log = append(want.Log, r)
	ok := false
	switch r.Kind {
	case 1:
		ok = wantPosted(&want, r)
	case 2:
		ok = wantMoved(&want, r)
	case 3:
		want.Accounts, ok = wantFollow(s.Accounts, r.Who, r.Name)
	case 4:
		want.Accounts, ok = wantUnfollow(s.Accounts, r.Who, r.Name)
	}
	if !ok {
		return impl.Server{}, false
	}
	return want, true
}

// wantPosted adds a post to a good server, and its job if anybody follows, and reports whether there is room for both.
func wantPosted(s *impl.Server, r impl.Record) bool {
	posts, id, ok := wantAdd(s.Posts, r.Who)
	if !ok || id != r.Id || placeOf(s.Accounts, r.Who) < 0 {
		return false
	}
	s.Posts = posts
	followers := followersIn(s.Accounts, r.Who)
	if len(followers) == 0 {
		return true
	}
	for _, j := range s.Jobs {
		if j.Id >= id {
			return false
		}
	}
	s.Jobs = append(s.Jobs, job(id, 0, followers...))
	return len(s.Jobs) <= 6
}

// wantMoved lets a job of a good server go on, and reports whether it can.
func wantMoved(s *impl.Server, r impl.Record) bool {
	for i, j := range s.Jobs {
		if j.Id != r.Id {
			continue
		}
		boxes, behind, ok := wantRun(s.Boxes, j, r.Done-j.Done)
		if !ok || r.Done <= j.Done || behind.Done != r.Done {
			return false
		}
		s.Boxes, s.Jobs[i] = boxes, behind
		if behind.Done == len(behind.To) {
			s.Jobs = append(s.Jobs[:i], s.Jobs[i+1:]...)
		}
		return true
	}
	return false
}

// nextId returns the number behind that of the last post of a server, or 1, without the program's help.
func nextId(s impl.Server) int {
	id := 1
	for _, p := range s.Posts {
		id = p.Id + 1
	}
	return id
}

// wantServerPost returns what ServerPost of a good server has to return, without the program's help.
func wantServerPost(s impl.Server, author string) (impl.Server, bool) {
	return wantServerDo(s, postRecord(nextId(s), author))
}

// wantServerWork returns what ServerWork of a good server has to return, without the program's help.
func wantServerWork(s impl.Server, many int) (impl.Server, bool) {
	if len(s.Jobs) == 0 || many < 1 {
		return impl.Server{}, false
	}
	_, behind := wantNext(s.Jobs[0], many)
	return wantServerDo(s, movedRecord(behind.Id, behind.Done))
}

// wantServerRun returns what ServerRun of good accounts has to return, without the program's help.
func wantServerRun(list []impl.Account, records []impl.Record) (impl.Server, int) {
	s := impl.Server{Accounts: list}
	for i, r := range records {
		behind, ok := wantServerDo(s, r)
		if !ok {
			return s, i
		}
		s = behind
	}
	return s, len(records)
}

// postRecords returns records of posts of a server, of which the numbers are the next one or others.
func postRecords(s impl.Server) []impl.Record {
	authors := []string{"kk"}
	for _, a := range s.Accounts {
		authors = append(authors, a.Name)
	}
	var list []impl.Record
	next := nextId(s)
	for _, author := range authors {
		for _, id := range []int{next, next - 1, next + 1, 0, 1, 999, 1000} {
			list = append(list, postRecord(id, author))
		}
	}
	return list
}

// movedRecords returns records of what moved of jobs of a server, and of posts that have none.
func movedRecords(s impl.Server) []impl.Record {
	ids := []int{nextId(s), 0, 999}
	for _, j := range s.Jobs {
		ids = append(ids, j.Id)
	}
	for _, p := range s.Posts {
		if len(ids) < 8 && !slices.Contains(ids, p.Id) {
			ids = append(ids, p.Id)
		}
	}
	var list []impl.Record
	for _, id := range ids {
		for done := range 12 {
			list = append(list, movedRecord(id, done))
		}
	}
	return list
}

// pairRecords returns records of one kind of pairs of names with and without accounts.
func pairRecords(s impl.Server, record func(who, name string) impl.Record) []impl.Record {
	names := []string{"bob", "kk", "zed"}
	for _, a := range s.Accounts {
		if !slices.Contains(names, a.Name) {
			names = append(names, a.Name)
		}
	}
	var list []impl.Record
	for _, who := range names {
		for _, name := range names {
			list = append(list, record(who, name))
		}
	}
	return list
}

// serverRecords returns records of all kinds that can happen to a server, or almost.
func serverRecords(s impl.Server) []impl.Record {
	return slices.Concat(postRecords(s), movedRecords(s), pairRecords(s, followRecord), pairRecords(s, unfollowRecord))
}

// walk lets records happen to a new server, and returns it as it is at first and behind each record, without the program's help.
// The kinds take turns; of the records of a kind that can happen, the seed chooses.
func walk(list []impl.Account, kinds []int, seed int) []impl.Server {
	s := impl.Server{Accounts: cloneAccounts(list)}
	servers := []impl.Server{s}
	for turn := range 60 {
		var behind []impl.Server
		for _, r := range serverRecords(s) {
			if r.Kind != kinds[turn%len(kinds)] {
				continue
			}
			if next, ok := wantServerDo(s, r); ok {
				behind = append(behind, next)
			}
		}
		if len(behind) > 0 {
			seed = (seed*1103515245 + 12345) % (1 << 31)
			s = behind[seed>>8%len(behind)]
			servers = append(servers, s)
		}
	}
	return servers
}

// walks returns walks from all accounts, which are made once, so that no test may change them.
var walks = sync.OnceValue(makeWalks)

// makeWalks returns walks with kinds that lead to many jobs, to few, to many boxes, or to RecordsMax records.
func makeWalks() [][]impl.Server {
	var result [][]impl.Server
	for i, list := range serverAccounts() {
		for k, kinds := range [][]int{{1}, {1, 2}, {1, 1, 2, 3}, {1, 2, 2, 2, 4}, {3, 4, 1, 2, 2}, {1, 1, 1, 2, 2, 4, 2}} {
			result = append(result, walk(list, kinds, 31*i+k))
		}
	}
	return result
}

// reachedServers returns all servers of walks.
func reachedServers() []impl.Server {
	return slices.Concat(walks()...)
}

// baseServer is a good server, the parts of which need not have come from each other.
func baseServer() impl.Server {
	return impl.Server{
		Accounts: []impl.Account{account("ann", "bob", "cat", "dan"), account("bob"), account("zed", "ann", "kim")},
		Posts:    []impl.Post{post(2, "ann"), post(3, "bob"), post(7, "zed")},
		Jobs:     []impl.Job{job(2, 1, "bob", "cat", "dan"), job(7, 0, "ann", "kim")},
		Boxes:    []impl.Box{box("bob", 2, 1), box("cat", 1)},
		Log:      []impl.Record{postRecord(2, "ann"), movedRecord(2, 1), unfollowRecord("kim", "zed"), postRecord(7, "zed")},
	}
}

// someOf returns every so manieth of a list, and the first and the last one.
func someOf[T any](list []T, step int) []T {
	var some []T
	for i, x := range list {
		if i%step == 0 || i == len(list)-1 {
			some = append(some, x)
		}
	}
	return some
}

// waitingLists returns jobs of good servers: none, one, as many as there may be, and those of numbers that no post has.
func waitingLists() [][]impl.Job {
	lists := [][]impl.Job{nil, {}, {job(999, 0, "ann")}, {job(1, 0, "a"), job(999, 9, tenNames...)}, {job(2, 0, "bob"), job(8, 0, "bob")}}
	for _, j := range someOf(goodJobs(), 7) {
		if j.Done < len(j.To) {
			lists = append(lists, []impl.Job{j})
		}
	}
	for many := 1; many <= 6; many++ {
		var low, high []impl.Job
		for i := range many {
			low = append(low, job(2+i, i%2, "bob", "cat"))
			high = append(high, job(999-many+i, i, tenNames...))
		}
		lists = append(lists, low, high)
	}
	return lists
}

// varied returns baseServer with each of some lists in one part.
func varied[T any](lists [][]T, put func(s *impl.Server, list []T)) []impl.Server {
	var servers []impl.Server
	for _, list := range lists {
		s := baseServer()
		put(&s, list)
		servers = append(servers, s)
	}
	return servers
}

// builtServers returns good servers that differ from baseServer in one part at most.
func builtServers() []impl.Server {
	return slices.Concat(
		[]impl.Server{baseServer()},
		varied(someOf(goodAccounts(), 11), func(s *impl.Server, list []impl.Account) { s.Accounts = list }),
		varied(someOf(goodPosts(), 5), func(s *impl.Server, list []impl.Post) { s.Posts = list }),
		varied(waitingLists(), func(s *impl.Server, list []impl.Job) { s.Jobs = list }),
		varied(someOf(goodBoxes(), 3), func(s *impl.Server, list []impl.Box) { s.Boxes = list }),
		varied(someOf(goodRecordLists(), 9), func(s *impl.Server, list []impl.Record) { s.Log = list }))
}

// goodServers returns servers that walks reach, and others.
func goodServers() []impl.Server {
	return append(reachedServers(), builtServers()...)
}

// fewServers returns some of goodServers, for tests that do a lot with each one.
func fewServers() []impl.Server {
	return append(someOf(reachedServers(), 7), someOf(builtServers(), 3)...)
}

// doResult is what ServerDo was given, and the server that it returned.
type doResult struct {
	s      impl.Server
	r      impl.Record
	result impl.Server
}

// postResult is what ServerPost was given, and the server that it returned.
type postResult struct {
	s      impl.Server
	author string
	result impl.Server
}

// workResult is what ServerWork was given, and the server that it returned.
type workResult struct {
	s      impl.Server
	many   int
	result impl.Server
}

// runResult is what ServerRun was given, and the server and the number that it returned.
type runResult struct {
	list     []impl.Account
	records  []impl.Record
	result   impl.Server
	happened int
}

// eachServerDo calls check with each ServerDo of samples that succeeds, of which there are some of each kind.
func eachServerDo(t *testing.T, check func(d doResult)) {
	t.Helper()
	kinds := map[int]int{}
	for _, s := range slices.Concat(someOf(reachedServers(), 2), builtServers(), someOf(badServers(), 9)) {
		for _, r := range append(serverRecords(s), someOf(badRecords(), 20)...) {
			if result, ok := impl.ServerDo(cloneServer(s), r); ok {
				kinds[r.Kind]++
				check(doResult{s, r, result})
			}
		}
	}
	for kind := 1; kind <= 4; kind++ {
		if kinds[kind] == 0 {
			t.Fatalf("ServerDo never succeeds for the kind %d", kind)
		}
	}
}

// eachServerPost calls check with each ServerPost of samples that succeeds.
func eachServerPost(t *testing.T, check func(p postResult)) {
	t.Helper()
	succeeded := 0
	for _, s := range append(goodServers(), someOf(badServers(), 9)...) {
		for _, author := range fewNames {
			if result, ok := impl.ServerPost(cloneServer(s), author); ok {
				succeeded++
				check(postResult{s, author, result})
			}
		}
	}
	if succeeded == 0 {
		t.Fatal("ServerPost never succeeds")
	}
}

// eachServerWork calls check with each ServerWork of samples that succeeds.
func eachServerWork(t *testing.T, check func(w workResult)) {
	t.Helper()
	succeeded := 0
	for _, s := range append(goodServers(), someOf(badServers(), 9)...) {
		for _, many := range append(slices.Clone(goodManys), badManys...) {
			if result, ok := impl.ServerWork(cloneServer(s), many); ok {
				succeeded++
				check(workResult{s, many, result})
			}
		}
	}
	if succeeded == 0 {
		t.Fatal("ServerWork never succeeds")
	}
}

// eachServerRun calls check with each ServerRun of samples that succeeds, in some of which all records happen, and in others not.
func eachServerRun(t *testing.T, check func(r runResult)) {
	t.Helper()
	all, notAll := 0, 0
	for _, run := range runSamples() {
		result, happened, ok := impl.ServerRun(cloneAccounts(run.list), slices.Clone(run.records))
		if !ok {
			continue
		}
		if happened == len(run.records) {
			all++
		} else {
			notAll++
		}
		check(runResult{run.list, run.records, result, happened})
	}
	if all == 0 || notAll == 0 {
		t.Fatalf("all records happen %d times, and not all %d times", all, notAll)
	}
}
