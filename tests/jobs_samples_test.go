package tests

import (
	"math"
	"slices"
	"testing"

	"loop.example/fanoutlog/impl"
)

// goodManys are how many names a call may be told: none, fewer than there are, as many, and more.
var goodManys = []int{0, 1, 2, 3, 5, 9, 10, 11, 1000, math.MaxInt32, math.MaxInt - 1, math.MaxInt}

// badManys are less than 0.
var badManys = []int{-1, -2, -3, -10, -11, math.MinInt32, math.MinInt + 1, math.MinInt}

// job returns a job with names of its own.
func job(id, done int, to ...string) impl.Job {
	return impl.Job{Id: id, To: slices.Clone(to), Done: done}
}

// goodJobs returns jobs of 0 to NamesMax names, of which none, some or all are done.
func goodJobs() []impl.Job {
	jobs := []impl.Job{{Id: 7, To: []string{}}}
	for i, to := range goodLists() {
		for done := range len(to) + 1 {
			jobs = append(jobs, job(someIds[(i+done)%len(someIds)], done, to...))
		}
	}
	for _, id := range someIds {
		jobs = append(jobs, job(id, 0), job(id, 0, "ann", "bob", "cat"), job(id, 1, "bob", "dan"), job(id, 2, "a", "zzzz"))
	}
	return jobs
}

// badJobs returns what is no job: for a number, for names, or for how many are done.
func badJobs() []impl.Job {
	jobs := []impl.Job{{}}
	for _, id := range badIds {
		jobs = append(jobs, job(id, 0), job(id, 0, "ann"), job(id, 1, "ann", "bob"), job(id, 2, "ann", "bob"), job(id, 10, tenNames...))
	}
	for _, to := range badLists {
		jobs = append(jobs, job(5, 0, to...), job(5, 1, to...), job(5, len(to), to...), job(5, len(to)+1, to...))
	}
	for _, name := range badNames {
		jobs = append(jobs, job(5, 0, name), job(5, 0, "ann", name), job(5, 1, name, "zzzz"), job(5, 2, "ann", name))
	}
	for _, to := range goodLists() {
		for _, done := range []int{-1, -2, -len(to) - 1, len(to) + 1, len(to) + 2, 100, math.MinInt32, math.MaxInt32, math.MinInt, math.MaxInt} {
			jobs = append(jobs, job(5, done, to...))
		}
	}
	return jobs
}

// runJobs returns good jobs of which names have boxes in goodBoxes, and others have none.
func runJobs() []impl.Job {
	var jobs []impl.Job
	for i, to := range [][]string{nil, {"bob"}, {"ann", "bob", "cat"}, {"a", "cat", "zzzz"}, {"bob", "dan", "kim"}, tenNames} {
		for done := range len(to) + 1 {
			jobs = append(jobs, job([]int{34, 1, 999, 33, 500}[(i+done)%5], done, to...))
		}
	}
	return jobs
}

// runBoxes returns good boxes, but not all of those that differ only in who has which numbers.
func runBoxes() [][]impl.Box {
	var lists [][]impl.Box
	for i, list := range goodBoxes() {
		if i < 12 || i%5 == 0 || len(list) > 8 {
			lists = append(lists, list)
		}
	}
	return lists
}

func cloneJob(j impl.Job) impl.Job {
	j.To = slices.Clone(j.To)
	return j
}

func sameJob(a, b impl.Job) bool {
	return a.Id == b.Id && slices.Equal(a.To, b.To) && a.Done == b.Done
}

// wantNew returns what JobNew of good accounts has to return, without the program's help.
func wantNew(list []impl.Account, author string, id int) (impl.Job, bool) {
	if placeOf(list, author) < 0 || id < 1 || id > 999 {
		return impl.Job{}, false
	}
	return job(id, 0, followersIn(list, author)...), true
}

// wantNext returns what JobNext of a good job has to return, without the program's help.
func wantNext(j impl.Job, many int) ([]string, impl.Job) {
	var names []string
	behind := cloneJob(j)
	for i, name := range j.To {
		if i >= j.Done && len(names) < many {
			names = append(names, name)
			behind.Done = i + 1
		}
	}
	return names, behind
}

// wantRun returns what JobRun of good boxes and a good job has to return, without the program's help.
func wantRun(boxes []impl.Box, j impl.Job, many int) ([]impl.Box, impl.Job, bool) {
	names, behind := wantNext(j, many)
	want := cloneBoxes(boxes)
	for _, name := range names {
		var ok bool
		if want, ok = wantBoxesPut(want, name, j.Id); !ok {
			return nil, impl.Job{}, false
		}
	}
	return want, behind, true
}

// jobNewCase is what JobNew is given, and what it has to return.
type jobNewCase struct {
	list   []impl.Account
	author string
	id     int
	want   impl.Job
	ok     bool
}

// jobNextCase is what JobNext is given, and what it has to return.
type jobNextCase struct {
	j      impl.Job
	many   int
	names  []string
	behind impl.Job
	ok     bool
}

// jobRunCase is what JobRun is given, and what it has to return.
type jobRunCase struct {
	boxes  []impl.Box
	j      impl.Job
	many   int
	want   []impl.Box
	behind impl.Job
	ok     bool
}

// jobNewResult is what JobNew was given, and the job that it returned.
type jobNewResult struct {
	list   []impl.Account
	author string
	id     int
	result impl.Job
}

// jobNextResult is what JobNext was given, and the names and the job that it returned.
type jobNextResult struct {
	j      impl.Job
	many   int
	names  []string
	behind impl.Job
}

// jobRunResult is what JobRun was given, and the boxes and the job that it returned.
type jobRunResult struct {
	boxes  []impl.Box
	j      impl.Job
	many   int
	result []impl.Box
	behind impl.Job
}

// eachJobNew calls check with each JobNew of good samples that succeeds.
func eachJobNew(t *testing.T, check func(n jobNewResult)) {
	t.Helper()
	succeeded := 0
	for _, list := range goodAccounts() {
		for _, author := range fewNames {
			for _, id := range []int{1, 2, 9, 500, 998, 999} {
				if result, ok := impl.JobNew(cloneAccounts(list), author, id); ok {
					succeeded++
					check(jobNewResult{list, author, id, result})
				}
			}
		}
	}
	if succeeded == 0 {
		t.Fatal("JobNew never succeeds")
	}
}

// eachJobNext calls check with each JobNext of good samples that succeeds.
func eachJobNext(t *testing.T, check func(n jobNextResult)) {
	t.Helper()
	succeeded := 0
	for _, j := range goodJobs() {
		for _, many := range goodManys {
			if names, behind, ok := impl.JobNext(cloneJob(j), many); ok {
				succeeded++
				check(jobNextResult{j, many, names, behind})
			}
		}
	}
	if succeeded == 0 {
		t.Fatal("JobNext never succeeds")
	}
}

// eachJobRun calls check with each JobRun of good samples that succeeds.
func eachJobRun(t *testing.T, check func(r jobRunResult)) {
	t.Helper()
	succeeded := 0
	for _, boxes := range runBoxes() {
		for _, j := range runJobs() {
			for _, many := range []int{0, 1, 2, 3, 10, math.MaxInt} {
				if result, behind, ok := impl.JobRun(cloneBoxes(boxes), cloneJob(j), many); ok {
					succeeded++
					check(jobRunResult{boxes, j, many, result, behind})
				}
			}
		}
	}
	if succeeded == 0 {
		t.Fatal("JobRun never succeeds")
	}
}
