package tests

import (
	"math"
	"slices"
	"testing"

	"loop.example/fanoutlog/impl"
)

func TestJobNewMemory(t *testing.T) {
	for _, list := range memoryAccounts() {
		for _, author := range append(slices.Clone(fewNames), "kk", "", "Ann") {
			for _, id := range []int{1, 999, 0, 1000} {
				checkJobNewMemory(t, list, author, id)
			}
		}
	}
}

func checkJobNewMemory(t *testing.T, list []impl.Account, author string, id int) {
	t.Helper()
	whole, list := roomyAccounts(list)
	before := wholeAccounts(whole)
	first, firstOk := impl.JobNew(list, author, id)
	want := cloneJob(first)
	second, secondOk := impl.JobNew(list, author, id)
	if firstOk != secondOk || !sameJob(first, second) {
		t.Errorf("JobNew(%q, %q, %d) returned %v, and %v then", list, author, id, first, second)
	}
	overwrite(second.To)
	if !sameAccounts(wholeAccounts(whole), before) || !sameJob(first, want) {
		t.Errorf("JobNew(%q, %q, %d) changed its argument, or shares memory", before[:len(list)], author, id)
	}
	overwriteAccounts(whole)
	if !sameJob(first, want) {
		t.Errorf("JobNew(%q, %q, %d): its result changes with its argument", before[:len(list)], author, id)
	}
}

func TestJobValidMemory(t *testing.T) {
	for _, j := range slices.Concat(goodJobs(), badJobs()) {
		whole, j := roomyJob(j)
		before, jBefore := slices.Clone(whole), cloneJob(j)
		first, second := impl.JobValid(j), impl.JobValid(j)
		if first != second || !slices.Equal(whole, before) || !sameJob(j, jBefore) {
			t.Errorf("JobValid changed %v to %v, and %v to %v", jBefore, j, first, second)
		}
	}
}

func TestJobNextMemory(t *testing.T) {
	for _, j := range slices.Concat(goodJobs(), badJobs()) {
		for _, many := range []int{0, 1, 3, 10, math.MaxInt, -1} {
			checkJobNextMemory(t, j, many)
		}
	}
}

func checkJobNextMemory(t *testing.T, j impl.Job, many int) {
	t.Helper()
	whole, j := roomyJob(j)
	before := slices.Clone(whole)
	names, behind, firstOk := impl.JobNext(j, many)
	wantNames, want := slices.Clone(names), cloneJob(behind)
	otherNames, other, secondOk := impl.JobNext(j, many)
	if firstOk != secondOk || !slices.Equal(names, otherNames) || !sameJob(behind, other) {
		t.Errorf("JobNext(%v, %d) returned %q and %v, and %q and %v then", j, many, names, behind, otherNames, other)
	}
	overwrite(otherNames)
	if !sameJob(other, want) {
		t.Errorf("JobNext(%v, %d): the job changes with the names", j, many)
	}
	overwrite(other.To)
	if !slices.Equal(whole, before) || !slices.Equal(names, wantNames) || !sameJob(behind, want) {
		t.Errorf("JobNext(%v, %d) changed its argument, or shares memory", j, many)
	}
	overwrite(whole)
	if !slices.Equal(names, wantNames) || !sameJob(behind, want) {
		t.Errorf("JobNext of %q and %d: its results change with its argument", before, many)
	}
	overwrite(behind.To)
	if !slices.Equal(names, wantNames) {
		t.Errorf("JobNext of %q and %d: the names change with the job", before, many)
	}
}

func TestJobRunMemory(t *testing.T) {
	for _, boxes := range append(runBoxes(), badBoxes()...) {
		for _, j := range []impl.Job{job(34, 0), job(34, 2, "ann", "cat"), job(34, 0, "ann", "bob", "zzzz"), job(1, 1, "ann", "bob", "kim"), job(0, 0, "ann"), job(34, 3, "ann", "cat")} {
			for _, many := range []int{0, 1, 10, -1} {
				checkJobRunMemory(t, boxes, j, many)
			}
		}
	}
}

func checkJobRunMemory(t *testing.T, boxes []impl.Box, j impl.Job, many int) {
	t.Helper()
	whole, boxes := roomyBoxes(boxes)
	names, j := roomyJob(j)
	before, namesBefore := wholeBoxes(whole), slices.Clone(names)
	first, behind, firstOk := impl.JobRun(boxes, j, many)
	want, wantJob := cloneBoxes(first), cloneJob(behind)
	second, other, secondOk := impl.JobRun(boxes, j, many)
	if firstOk != secondOk || !sameBoxes(first, second) || !sameJob(behind, other) {
		t.Errorf("JobRun(%v, %v, %d) returned %v and %v, and %v and %v then", boxes, j, many, first, behind, second, other)
	}
	overwriteBoxes(second)
	overwrite(other.To)
	if !sameBoxes(wholeBoxes(whole), before) || !slices.Equal(names, namesBefore) || !sameBoxes(first, want) || !sameJob(behind, wantJob) {
		t.Errorf("JobRun(%v, %v, %d) changed its arguments, or shares memory", before[:len(boxes)], j, many)
	}
	overwriteBoxes(whole)
	overwrite(names)
	if !sameBoxes(first, want) || !sameJob(behind, wantJob) {
		t.Errorf("JobRun of %v, %q and %d: its results change with its arguments", before[:len(boxes)], namesBefore, many)
	}
}

// Boxes of an argument may share memory with each other; those of a result may not.
func TestJobRunResultOfSharedNumbers(t *testing.T) {
	ids := idRow(36, 6)
	boxes := []impl.Box{{Name: "x", Ids: ids[:3]}, {Name: "y", Ids: ids[:3]}, {Name: "z", Ids: ids[3:6]}}
	for _, j := range []impl.Job{job(34, 0), job(40, 0, "a", "x", "y"), job(1, 1, "x", "y", "zz"), job(34, 3, "x", "y", "z")} {
		for many := range 5 {
			want, behind, _ := wantRun(boxes, j, many)
			checkJobRunParts(t, jobRunCase{boxes, j, many, want, behind, true})
		}
	}
	if !slices.Equal(ids, idRow(36, 6)) {
		t.Errorf("the argument has become %v", ids)
	}
}

// checkJobRunParts checks that no box of a result changes through another one.
func checkJobRunParts(t *testing.T, c jobRunCase) {
	t.Helper()
	for at := range c.want {
		result, behind, ok := impl.JobRun(c.boxes, c.j, c.many)
		if ok != c.ok || !sameBoxes(result, c.want) || !sameJob(behind, c.behind) {
			t.Fatalf("JobRun(%v, %v, %d) returned %v, %v, %v; want %v, %v", c.boxes, c.j, c.many, result, behind, ok, c.want, c.behind)
		}
		overwriteIds(result[at].Ids)
		for i, b := range result {
			if i != at && !sameBox(b, c.want[i]) {
				t.Errorf("%v changes with the box %q", b, result[at].Name)
			}
		}
	}
}

func TestJobsNilAndEmptyNames(t *testing.T) {
	for _, none := range [][]string{nil, {}, make([]string, 0, 5), slices.Clone(tenNames)[:0]} {
		list := []impl.Account{{Name: "ann", Followers: none}}
		for _, id := range slices.Concat(someIds, badIds) {
			j, valid := impl.Job{Id: id, To: none}, id >= 1 && id <= 999
			if impl.JobValid(j) != valid {
				t.Errorf("JobValid(%v) is not %v", j, valid)
			}
			want := impl.Job{}
			if valid {
				want = job(id, 0)
			}
			if got, ok := impl.JobNew(list, "ann", id); ok != valid || !sameJob(got, want) {
				t.Errorf("JobNew(%q, ann, %d) returned %v, %v", list, id, got, ok)
			}
			if names, behind, ok := impl.JobNext(j, 1); ok != valid || len(names) != 0 || !sameJob(behind, want) {
				t.Errorf("JobNext(%v, 1) returned %q, %v, %v", j, names, behind, ok)
			}
		}
	}
}

func TestJobRunNilAndEmptyBoxes(t *testing.T) {
	for _, none := range [][]impl.Box{nil, {}, make([]impl.Box, 0, 5), boxRow(1, "ann", "bob")[:0]} {
		for _, j := range runJobs() {
			for _, many := range goodManys {
				want, behind, wantOk := wantRun(nil, j, many)
				if got, now, ok := impl.JobRun(none, j, many); ok != wantOk || !sameBoxes(got, want) || !sameJob(now, behind) {
					t.Errorf("JobRun of none, %v and %d returned %v, %v, %v", j, many, got, now, ok)
				}
			}
		}
		for _, to := range [][]string{nil, {}} {
			if got, now, ok := impl.JobRun(none, impl.Job{Id: 7, To: to}, 1); !ok || len(got) != 0 || !sameJob(now, job(7, 0)) {
				t.Errorf("JobRun of none and nobody returned %v, %v, %v", got, now, ok)
			}
		}
	}
}

func TestJobsNilAndEmptyAccounts(t *testing.T) {
	for _, none := range [][]impl.Account{nil, {}, make([]impl.Account, 0, 5), []impl.Account{account("ann", "bob")}[:0]} {
		for _, author := range slices.Concat(fewNames, badNames) {
			if got, ok := impl.JobNew(none, author, 5); ok || !sameJob(got, impl.Job{}) {
				t.Errorf("JobNew of none and %q returned %v, %v", author, got, ok)
			}
		}
	}
}

// roomyJob returns a job with room behind its names, and the memory of these with this room,
// so that an append to the argument can be noticed.
func roomyJob(j impl.Job) ([]string, impl.Job) {
	whole, to := roomy(j.To)
	j.To = to
	return whole, j
}
