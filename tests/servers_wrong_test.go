package tests

import (
	"slices"
	"testing"

	"loop.example/fanoutlog/impl"
)

// sixJobs returns JobsMax jobs that wait, with numbers from one on.
func sixJobs(from int) []impl.Job {
	var list []impl.Job
	for i := range 6 {
		list = append(list, job(from+i, 0, "bob", "cat"))
	}
	return list
}

// badJobLists returns what are no jobs of a server: for a job, for one that is done, for the order of numbers, or for how many there are.
func badJobLists() [][]impl.Job {
	first, last := job(1, 1, "ann", "bob"), job(999, 0, "zed")
	var lists [][]impl.Job
	for _, bad := range append(badJobs(), doneJobs()...) {
		lists = append(lists, []impl.Job{bad}, []impl.Job{first, bad}, []impl.Job{bad, last}, []impl.Job{first, bad, last})
	}
	lists = append(lists,
		[]impl.Job{last, first},
		[]impl.Job{job(3, 0, "ann"), job(2, 0, "ann")},
		[]impl.Job{job(2, 0, "ann"), job(4, 0, "ann"), job(3, 0, "ann")},
		[]impl.Job{job(3, 0, "ann"), job(2, 0, "ann"), job(4, 0, "ann")},
		[]impl.Job{first, first},
		[]impl.Job{job(2, 0, "ann"), job(2, 0, "bob")},
		[]impl.Job{job(2, 0, "ann"), job(4, 0, "ann"), job(4, 0, "ann")},
		[]impl.Job{job(2, 0, "ann"), job(4, 0, "bob"), job(2, 0, "ann")},
		append(sixJobs(2), last),
		append(sixJobs(990), job(996, 1, "ann", "bob")),
		append([]impl.Job{first}, sixJobs(2)...),
		append(sixJobs(2), sixJobs(8)...),
		append(sixJobs(2)[:5], job(6, 0, "bob")),
		append(sixJobs(2)[:5], job(7, 2, "bob", "cat")),
		append(sixJobs(2)[:5], job(7, 0)))
	return lists
}

// doneJobs returns valid jobs that are done.
func doneJobs() []impl.Job {
	return []impl.Job{job(2, 0), job(500, 0), job(2, 1, "ann"), job(2, 2, "ann", "bob"), job(7, 10, tenNames...)}
}

// badLogs returns what is no log: for a record at any place, or for how many there are.
func badLogs() [][]impl.Record {
	lists := [][]impl.Record{recordRow(0, 31), recordRow(5, 32), slices.Repeat([]impl.Record{postRecord(1, "ann")}, 100)}
	for i, bad := range badRecords() {
		good := recordRow(i, 5)
		lists = append(lists, []impl.Record{bad}, slices.Insert(good, i%6, bad))
	}
	return append(lists, append(recordRow(0, 29), impl.Record{}), append([]impl.Record{{}}, recordRow(0, 29)...))
}

// badServers returns servers that are invalid in one part alone.
func badServers() []impl.Server {
	return slices.Concat(
		varied(badAccounts(), func(s *impl.Server, list []impl.Account) { s.Accounts = list }),
		varied(badPosts(), func(s *impl.Server, list []impl.Post) { s.Posts = list }),
		varied(badJobLists(), func(s *impl.Server, list []impl.Job) { s.Jobs = list }),
		varied(badBoxes(), func(s *impl.Server, list []impl.Box) { s.Boxes = list }),
		varied(badLogs(), func(s *impl.Server, list []impl.Record) { s.Log = list }))
}

// runSample is what ServerRun is given.
type runSample struct {
	list    []impl.Account
	records []impl.Record
}

// impossibleRecords are records that can not happen to a new server, nor behind others in most cases.
func impossibleRecords() []impl.Record {
	return []impl.Record{
		{}, postRecord(999, "ann"), postRecord(1000, "ann"), postRecord(1, "kk"), postRecord(1, ""), movedRecord(999, 1), movedRecord(1, 11),
		followRecord("bob", "kk"), followRecord("ann", "ann"), followRecord("Bob", "ann"), unfollowRecord("xx", "ann"), unfollowRecord("bob", "kk"),
		{Kind: 5, Id: 1, Who: "ann"}, {Kind: -1}, {Kind: impl.RecordPost, Id: 1, Who: "ann", Name: "ann"},
	}
}

// runSamples returns records of walks, records of them with others between, and records that never happen.
func runSamples() []runSample {
	var runs []runSample
	for i, servers := range walks() {
		list, log := servers[0].Accounts, servers[len(servers)-1].Log
		runs = append(runs, runSample{list, log}, runSample{list, log[:len(log)/2]}, runSample{list, nil}, runSample{pairAccounts(), log})
		for k, r := range impossibleRecords() {
			for _, at := range []int{0, len(log) / 2, len(log), (7*i + k) % (len(log) + 1)} {
				runs = append(runs, runSample{list, slices.Insert(slices.Clone(log), at, r)})
			}
		}
	}
	for _, list := range badAccounts() {
		runs = append(runs, runSample{list, nil}, runSample{list, []impl.Record{postRecord(1, "ann"), followRecord("bob", "ann")}})
	}
	for _, list := range someOf(goodRecordLists(), 5) {
		runs = append(runs, runSample{pairAccounts(), list})
	}
	return runs
}

// A server that is invalid in any one part fails, whatever would happen.
func TestInvalidServers(t *testing.T) {
	for _, s := range badServers() {
		for _, r := range someOf(serverRecords(s), 3) {
			checkServerDo(t, doCase{s, r, impl.Server{}, false})
		}
		for _, author := range []string{"ann", "bob", "zed", "kk", ""} {
			checkServerPost(t, s, author, impl.Server{}, false)
		}
		for _, many := range []int{1, 2, 10, 0, -1} {
			checkServerWork(t, s, many, impl.Server{}, false)
		}
	}
}

// What is wrong with jobs might be gone behind a record, which can not happen all the same.
func TestInvalidServersThatWouldBecomeValid(t *testing.T) {
	for _, jobs := range [][]impl.Job{
		append(sixJobs(2), job(999, 0, "zed")),
		{job(3, 0, "ann"), job(2, 0, "ann")},
		{job(2, 0, "ann"), job(2, 0, "bob")},
		{job(2, 0, "ann"), job(4, 0, "ann"), job(3, 0, "ann")},
	} {
		s := baseServer()
		s.Jobs = jobs
		checkServerWork(t, s, 10, impl.Server{}, false)
		for _, j := range jobs {
			checkServerDo(t, doCase{s, movedRecord(j.Id, len(j.To)), impl.Server{}, false})
		}
	}
}

// Records of all kinds can happen to baseServer, so that invalid servers fail for what differs in them.
func TestBaseServerIsValid(t *testing.T) {
	for _, r := range []impl.Record{postRecord(8, "ann"), postRecord(8, "bob"), movedRecord(2, 2), movedRecord(2, 3), movedRecord(7, 1), movedRecord(7, 2), followRecord("kim", "bob"), unfollowRecord("dan", "ann")} {
		want, ok := wantServerDo(baseServer(), r)
		if !ok {
			t.Fatalf("%+v can not happen", r)
		}
		checkServerDo(t, doCase{baseServer(), r, want, true})
	}
}

// Records that are invalid by themselves can not happen, whatever the server is.
func TestServerDoInvalidRecords(t *testing.T) {
	for _, s := range someOf(fewServers(), 9) {
		for _, r := range badRecords() {
			checkServerDo(t, doCase{s, r, impl.Server{}, false})
		}
	}
}

// A kind that is none can not happen, even if all else is as one of a kind that would.
func TestServerDoKindsThatAreNone(t *testing.T) {
	for _, kind := range badKinds {
		for _, r := range []impl.Record{{}, postRecord(8, "ann"), movedRecord(2, 2), followRecord("kim", "bob"), unfollowRecord("dan", "ann")} {
			r.Kind = kind
			checkServerDo(t, doCase{baseServer(), r, impl.Server{}, false})
		}
	}
}

// recordsOfBytes returns records that could happen to a server, if a string was a name, or was not there.
func recordsOfBytes(s impl.Server, name string) []impl.Record {
	return []impl.Record{
		postRecord(nextId(s), name), followRecord(name, "bob"), followRecord("bob", name), unfollowRecord(name, "ann"), unfollowRecord("bob", name),
		{Kind: impl.RecordMoved, Id: 2, Done: 2, Who: name + " "}, {Kind: impl.RecordMoved, Id: 2, Done: 2, Name: name + " "},
		{Kind: impl.RecordPost, Id: nextId(s), Who: "ann", Name: name + " "},
	}
}

// Strings of any bytes are no names, of authors and of those who follow.
func TestServerAnyBytes(t *testing.T) {
	for _, s := range []impl.Server{{}, {Accounts: pairAccounts()}, baseServer()} {
		for _, name := range append(anyBytes(), badNames...) {
			if nameForm.MatchString(name) {
				continue
			}
			checkServerPost(t, s, name, impl.Server{}, false)
			for _, r := range recordsOfBytes(s, name) {
				checkServerDo(t, doCase{s, r, impl.Server{}, false})
				if got, happened, ok := impl.ServerRun(pairAccounts(), []impl.Record{r}); !ok || happened != 0 || !sameServer(got, impl.Server{Accounts: pairAccounts()}) {
					t.Fatalf("ServerRun of %.100q returned %v, %d, %v", name, got, happened, ok)
				}
			}
		}
	}
}
