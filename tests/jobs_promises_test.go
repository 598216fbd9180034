package tests

import (
	"slices"
	"testing"

	"loop.example/fanoutlog/impl"
)

func TestP45NewJobGoesToFollowersAndToNoneYet(t *testing.T) {
	eachJobNew(t, func(n jobNewResult) {
		want := impl.Job{Id: n.id, To: impl.FollowersOf(cloneAccounts(n.list), n.author)}
		if !impl.JobValid(n.result) || !sameJob(n.result, want) {
			t.Errorf("JobNew(%q, %q, %d) returned %v; want %v", n.list, n.author, n.id, n.result, want)
		}
	})
}

func TestP46NextNamesAreThoseBehindTheDoneOnes(t *testing.T) {
	fewer, all := 0, 0
	eachJobNext(t, func(n jobNextResult) {
		left := n.j.To[n.j.Done:]
		want := left
		if n.many < len(left) {
			want = left[:n.many]
			fewer++
		} else {
			all++
		}
		if !slices.Equal(n.names, want) {
			t.Errorf("JobNext(%v, %d) returned %q; want %q", n.j, n.many, n.names, want)
		}
	})
	if fewer == 0 || all == 0 {
		t.Errorf("as many as told were next %d times, and all %d times", fewer, all)
	}
}

func TestP47NextJobIsValidWithTheSameNumberAndNames(t *testing.T) {
	eachJobNext(t, func(n jobNextResult) {
		if !impl.JobValid(n.behind) || n.behind.Id != n.j.Id || !slices.Equal(n.behind.To, n.j.To) {
			t.Errorf("JobNext(%v, %d) returned %v", n.j, n.many, n.behind)
		}
	})
}

func TestP48NextIsTheSameInTwoParts(t *testing.T) {
	eachJobNext(t, func(n jobNextResult) {
		for _, first := range firstParts(n.many) {
			names, j, ok := impl.JobNext(cloneJob(n.j), first)
			if !ok {
				t.Fatalf("JobNext(%v, %d) fails", n.j, first)
			}
			if len(names) > len(n.names) || !slices.Equal(names, n.names[:len(names)]) {
				t.Fatalf("JobNext(%v, %d) returned %q, and %q for %d", n.j, n.many, n.names, names, first)
			}
			checkJobNext(t, jobNextCase{j, n.many - first, n.names[len(names):], n.behind, true})
		}
	})
}

func TestP49RunIsBoxPutForEachNextName(t *testing.T) {
	some := 0
	eachJobRun(t, func(r jobRunResult) {
		names, behind, ok := impl.JobNext(cloneJob(r.j), r.many)
		if !ok || !sameJob(r.behind, behind) {
			t.Errorf("JobRun(%v, %v, %d) returned %v; want %v, %v", r.boxes, r.j, r.many, r.behind, behind, ok)
		}
		for _, name := range names {
			some++
			want, ok := impl.BoxPut(impl.BoxesGet(cloneBoxes(r.boxes), name), r.j.Id)
			if !ok {
				t.Errorf("BoxPut of the box %q of %v and %d fails", name, r.boxes, r.j.Id)
			}
			checkBoxesGet(t, r.result, name, want)
		}
	})
	if some == 0 {
		t.Error("nobody is next")
	}
}

func TestP50RunLeavesAllOtherBoxes(t *testing.T) {
	some := 0
	eachJobRun(t, func(r jobRunResult) {
		names, _ := wantNext(r.j, r.many)
		for _, name := range slices.Concat(boxNames, tenNames) {
			if !slices.Contains(names, name) {
				some++
				checkBoxesGet(t, r.result, name, impl.BoxesGet(cloneBoxes(r.boxes), name))
			}
		}
		others := func(list []impl.Box) []impl.Box {
			return slices.DeleteFunc(slices.Clone(list), func(b impl.Box) bool { return slices.Contains(names, b.Name) })
		}
		if !impl.BoxesValid(r.result) || !sameBoxes(others(r.result), others(r.boxes)) {
			t.Errorf("JobRun(%v, %v, %d) returned %v", r.boxes, r.j, r.many, r.result)
		}
	})
	if some == 0 {
		t.Error("all are next")
	}
}

func TestP51RunFromTheSamePlaceChangesNothingASecondTime(t *testing.T) {
	eachJobRun(t, func(r jobRunResult) {
		checkJobRun(t, jobRunCase{r.result, r.j, r.many, r.result, r.behind, true})
	})
}

func TestP52RunIsTheSameInTwoParts(t *testing.T) {
	eachJobRun(t, func(r jobRunResult) {
		for _, first := range firstParts(r.many) {
			boxes, j, ok := impl.JobRun(cloneBoxes(r.boxes), cloneJob(r.j), first)
			if !ok {
				t.Fatalf("JobRun(%v, %v, %d) fails", r.boxes, r.j, first)
			}
			checkJobRun(t, jobRunCase{boxes, j, r.many - first, r.result, r.behind, true})
		}
	})
}

func TestP53JobThatWentToOneMoreThanThereAreOrToLessThanNone(t *testing.T) {
	for _, j := range goodJobs() {
		checkJobValid(t, j, true)
		j.Done = len(j.To) + 1
		checkJobValid(t, j, false)
		j.Done = -1
		checkJobValid(t, j, false)
	}
}

func TestP54JobIsDoneWithTenAtATime(t *testing.T) {
	eachJobNext(t, func(n jobNextResult) {
		_, behind, ok := impl.JobNext(cloneJob(n.j), 10)
		if !ok || behind.Done != len(n.j.To) {
			t.Errorf("JobNext(%v, 10) returned %v, %v", n.j, behind, ok)
		}
		for _, many := range goodManys {
			checkJobNext(t, jobNextCase{behind, many, nil, behind, true})
		}
	})
}

func TestP55RunForNoneChangesNothing(t *testing.T) {
	eachJobRun(t, func(r jobRunResult) {
		checkJobRun(t, jobRunCase{r.boxes, r.j, 0, r.boxes, r.j, true})
	})
}

func TestP56NewJobTellsAllFollowersWithTen(t *testing.T) {
	some := 0
	eachJobNew(t, func(n jobNewResult) {
		followers := impl.FollowersOf(cloneAccounts(n.list), n.author)
		some += len(followers)
		checkJobNext(t, jobNextCase{n.result, 10, followers, job(n.id, len(followers), followers...), true})
	})
	if some == 0 {
		t.Error("nobody follows")
	}
}

// firstParts returns into which first parts a number can be split, as far as these matter for NamesMax names.
func firstParts(many int) []int {
	var parts []int
	for first := range min(many, 11) + 1 {
		parts = append(parts, first)
	}
	return append(parts, many)
}
