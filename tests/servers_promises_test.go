package tests

import (
	"slices"
	"testing"

	"loop.example/fanoutlog/impl"
)

func TestP72NewServerHasTheAccountsAndNothingElse(t *testing.T) {
	some := 0
	for _, list := range slices.Concat(goodAccounts(), badAccounts()) {
		s, ok := impl.ServerNew(cloneAccounts(list))
		if !ok {
			continue
		}
		some += len(s.Accounts)
		if !impl.AccountsValid(s.Accounts) || !sameAccounts(s.Accounts, list) || len(s.Posts)+len(s.Jobs)+len(s.Boxes)+len(s.Log) != 0 {
			t.Fatalf("ServerNew(%v) returned %v", list, s)
		}
	}
	if some == 0 {
		t.Error("ServerNew never returns accounts")
	}
}

func TestP73LogIsThatOfBeforeAndTheRecord(t *testing.T) {
	eachServerDo(t, func(d doResult) {
		if !slices.Equal(d.result.Log, append(slices.Clone(d.s.Log), d.r)) {
			t.Fatalf("ServerDo(%v, %+v) returned the log %+v", d.s, d.r, d.result.Log)
		}
	})
}

func TestP74PostIsTheLastOneAndItsJobGoesToAllFollowers(t *testing.T) {
	followed, alone := 0, 0
	eachServerDo(t, func(d doResult) {
		if d.r.Kind != impl.RecordPost {
			return
		}
		want := cloneServer(d.s)
		want.Posts = append(want.Posts, post(d.r.Id, d.r.Who))
		want.Log = d.result.Log
		if followers := impl.FollowersOf(cloneAccounts(d.s.Accounts), d.r.Who); len(followers) > 0 {
			followed++
			want.Jobs = append(want.Jobs, job(d.r.Id, 0, followers...))
		} else {
			alone++
		}
		if !sameServer(d.result, want) {
			t.Fatalf("ServerDo(%v, %+v) returned %v", d.s, d.r, d.result)
		}
	})
	if followed == 0 || alone == 0 {
		t.Fatalf("%d authors are followed, and %d are not", followed, alone)
	}
}

func TestP75FollowOrItsEndChangesAccountsAlone(t *testing.T) {
	eachServerDo(t, func(d doResult) {
		want, ok := cloneServer(d.s), false
		switch d.r.Kind {
		case impl.RecordFollow:
			want.Accounts, ok = impl.Follow(want.Accounts, d.r.Who, d.r.Name)
		case impl.RecordUnfollow:
			want.Accounts, ok = impl.Unfollow(want.Accounts, d.r.Who, d.r.Name)
		default:
			return
		}
		want.Log = d.result.Log
		if !ok || !sameServer(d.result, want) {
			t.Fatalf("ServerDo(%v, %+v) returned %v; want %v, %v", d.s, d.r, d.result, want, ok)
		}
	})
}

func TestP76BoxesAreThoseOfJobRunUpToSoMany(t *testing.T) {
	eachServerDo(t, func(d doResult) {
		if d.r.Kind != impl.RecordMoved {
			return
		}
		at := slices.IndexFunc(d.s.Jobs, func(j impl.Job) bool { return j.Id == d.r.Id })
		if at < 0 {
			t.Fatalf("ServerDo(%v, %+v) has no job", d.s, d.r)
		}
		j := d.s.Jobs[at]
		boxes, behind, ok := impl.JobRun(cloneBoxes(d.s.Boxes), cloneJob(j), d.r.Done-j.Done)
		if !ok || behind.Done != d.r.Done || !sameBoxes(d.result.Boxes, boxes) {
			t.Fatalf("ServerDo(%v, %+v) returned %v; want %v and %v, %v", d.s, d.r, d.result, boxes, behind, ok)
		}
		if !sameAccounts(d.result.Accounts, d.s.Accounts) || !slices.Equal(d.result.Posts, d.s.Posts) {
			t.Fatalf("ServerDo(%v, %+v) returned %v", d.s, d.r, d.result)
		}
	})
}

func TestP77NoJobIsDoneAndThereIsOneMoreAtMost(t *testing.T) {
	more, fewer := 0, 0
	eachServerDo(t, func(d doResult) {
		for _, j := range d.result.Jobs {
			if !impl.JobValid(cloneJob(j)) || j.Done >= len(j.To) {
				t.Fatalf("ServerDo(%v, %+v) returned the job %v", d.s, d.r, j)
			}
		}
		if len(d.result.Jobs) > len(d.s.Jobs)+1 || len(d.result.Jobs) > impl.JobsMax {
			t.Fatalf("ServerDo(%v, %+v) returned the jobs %v", d.s, d.r, d.result.Jobs)
		}
		if len(d.result.Jobs) > len(d.s.Jobs) {
			more++
		} else if len(d.result.Jobs) < len(d.s.Jobs) {
			fewer++
		}
	})
	if more == 0 || fewer == 0 {
		t.Fatalf("there are more jobs %d times, and fewer %d times", more, fewer)
	}
}

func TestP78ServerPostIsServerDoOfThePostWithTheNextNumber(t *testing.T) {
	eachServerPost(t, func(p postResult) {
		want, ok := impl.ServerDo(cloneServer(p.s), postRecord(nextId(p.s), p.author))
		if !ok || !sameServer(p.result, want) {
			t.Fatalf("ServerPost(%v, %q) returned %v; want %v, %v", p.s, p.author, p.result, want, ok)
		}
	})
}

func TestP79WorkLetsTheFirstJobGoOnAndLeavesAllOthers(t *testing.T) {
	some, done := 0, 0
	eachServerWork(t, func(w workResult) {
		first := cloneJob(w.s.Jobs[0])
		want := cloneJobs(w.s.Jobs[1:])
		if left := len(first.To) - first.Done; w.many < left {
			some++
			first.Done += w.many
			want = append([]impl.Job{first}, want...)
		} else {
			done++
		}
		if !sameJobs(w.result.Jobs, want) {
			t.Fatalf("ServerWork(%v, %d) returned the jobs %v", w.s, w.many, w.result.Jobs)
		}
	})
	if some == 0 || done == 0 {
		t.Fatalf("the first job goes on %d times, and is done %d times", some, done)
	}
}

func TestP80WorkIsOneRecordMoreOfWhatMovedAndServerDoOfIt(t *testing.T) {
	eachServerWork(t, func(w workResult) {
		log := w.result.Log
		if len(log) != len(w.s.Log)+1 || !slices.Equal(log[:len(w.s.Log)], w.s.Log) || log[len(w.s.Log)].Kind != impl.RecordMoved {
			t.Fatalf("ServerWork(%v, %d) returned the log %+v", w.s, w.many, log)
		}
		checkServerDo(t, doCase{w.s, log[len(w.s.Log)], w.result, true})
	})
}

func TestP81LogIsTheRecordsThatHappenedAndTheNextOneCanNot(t *testing.T) {
	eachServerRun(t, func(r runResult) {
		if r.happened < 0 || r.happened > len(r.records) || !slices.Equal(r.result.Log, r.records[:r.happened]) {
			t.Fatalf("ServerRun(%v, %+v) returned %v, %d", r.list, r.records, r.result, r.happened)
		}
		if r.happened < len(r.records) {
			checkServerDo(t, doCase{r.result, r.records[r.happened], impl.Server{}, false})
		}
	})
}

func TestP82RunOfTheRecordsThatHappenedIsTheSameServer(t *testing.T) {
	eachServerRun(t, func(r runResult) {
		checkServerRun(t, runSample{r.list, r.records[:r.happened]}, r.result, r.happened, true)
		checkServerRun(t, runSample{r.list, r.result.Log}, r.result, r.happened, true)
	})
}

func TestP83RunIsServerDoOfTheLastRecordBehindAllOthers(t *testing.T) {
	some := 0
	eachServerRun(t, func(r runResult) {
		if r.happened == 0 {
			return
		}
		some++
		others, _, ok := impl.ServerRun(cloneAccounts(r.list), slices.Clone(r.records[:r.happened-1]))
		if !ok {
			t.Fatalf("ServerRun(%v, %+v) fails without the last record", r.list, r.records)
		}
		checkServerDo(t, doCase{others, r.records[r.happened-1], r.result, true})
	})
	if some == 0 {
		t.Error("no record happens")
	}
}

func TestP84PostsOfTheAuthorBeginWithThePostAndAreOneMore(t *testing.T) {
	eachServerPost(t, func(p postResult) {
		before := impl.PostsOf(slices.Clone(p.s.Posts), p.author)
		want := append([]int{nextId(p.s)}, before...)
		if got := impl.PostsOf(slices.Clone(p.result.Posts), p.author); !slices.Equal(got, want) {
			t.Fatalf("ServerPost(%v, %q) leads to the posts %v; want %v", p.s, p.author, got, want)
		}
	})
}

func TestP85WorkOfTenLeavesAllJobsButTheFirst(t *testing.T) {
	some := 0
	eachServerWork(t, func(w workResult) {
		if ten, ok := impl.ServerWork(cloneServer(w.s), 10); ok {
			some++
			if !sameJobs(ten.Jobs, w.s.Jobs[1:]) {
				t.Fatalf("ServerWork(%v, 10) returned the jobs %v", w.s, ten.Jobs)
			}
		}
	})
	if some == 0 {
		t.Error("ServerWork never succeeds for 10")
	}
}

func TestP86ServerDoFailsForTheKind0AndThereAreAtMostPostsMaxPosts(t *testing.T) {
	most := 0
	eachServerDo(t, func(d doResult) {
		none := d.r
		none.Kind = 0
		for _, s := range []impl.Server{d.s, d.result} {
			checkServerDo(t, doCase{s, impl.Record{}, impl.Server{}, false})
			checkServerDo(t, doCase{s, none, impl.Server{}, false})
		}
		most = max(most, len(d.result.Posts))
		if len(d.result.Posts) > impl.PostsMax {
			t.Fatalf("ServerDo(%v, %+v) returned %d posts", d.s, d.r, len(d.result.Posts))
		}
	})
	if most != impl.PostsMax {
		t.Fatalf("there are never more than %d posts", most)
	}
}

func TestP87AccountsKeepTheirNames(t *testing.T) {
	eachServerDo(t, func(d doResult) {
		same := slices.EqualFunc(d.result.Accounts, d.s.Accounts, func(a, b impl.Account) bool { return a.Name == b.Name })
		if !same || !impl.AccountsValid(d.result.Accounts) {
			t.Fatalf("ServerDo(%v, %+v) returned the accounts %v", d.s, d.r, d.result.Accounts)
		}
	})
}
