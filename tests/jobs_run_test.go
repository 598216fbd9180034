package tests

import (
	"math"
	"testing"

	"loop.example/fanoutlog/impl"
)

func TestJobRunSamples(t *testing.T) {
	succeeded, failed := 0, 0
	for _, boxes := range runBoxes() {
		for _, j := range runJobs() {
			for _, many := range goodManys {
				want, behind, ok := wantRun(boxes, j, many)
				checkJobRun(t, jobRunCase{boxes, j, many, want, behind, ok})
				if ok {
					succeeded++
				} else {
					failed++
				}
			}
		}
	}
	if succeeded == 0 || failed == 0 {
		t.Errorf("JobRun succeeds %d times, and fails %d times", succeeded, failed)
	}
}

func TestJobRunJobs(t *testing.T) {
	boxes := []impl.Box{box("bob", 500, 400, 300, 200, 100, 50), box("cat", 999, 1), box("eve", 4), box("zzzz", 5, 3)}
	for _, boxes := range [][]impl.Box{nil, boxes, boxRow(6, tenNames[:5]...)} {
		for _, j := range goodJobs() {
			for _, many := range goodManys {
				want, behind, ok := wantRun(boxes, j, many)
				checkJobRun(t, jobRunCase{boxes, j, many, want, behind, ok})
			}
		}
	}
}

func TestJobRunCases(t *testing.T) {
	fresh, some, done := job(9, 0, "bob", "cat"), job(9, 1, "bob", "cat"), job(9, 2, "bob", "cat")
	two := []impl.Box{box("ann", 8), box("bob", 12, 5)}
	cases := []jobRunCase{
		{nil, fresh, 5, []impl.Box{box("bob", 9), box("cat", 9)}, done, true},
		{nil, fresh, 1, []impl.Box{box("bob", 9)}, some, true},
		{nil, some, 1, []impl.Box{box("cat", 9)}, done, true},
		{nil, fresh, 0, nil, fresh, true},
		{nil, done, 5, nil, done, true},
		{nil, job(9, 0), 5, nil, job(9, 0), true},
		{two, fresh, 0, two, fresh, true},
		{two, fresh, 1, []impl.Box{box("ann", 8), box("bob", 12, 9, 5)}, some, true},
		{two, fresh, 2, []impl.Box{box("ann", 8), box("bob", 12, 9, 5), box("cat", 9)}, done, true},
		{two, fresh, math.MaxInt, []impl.Box{box("ann", 8), box("bob", 12, 9, 5), box("cat", 9)}, done, true},
		{two, some, math.MaxInt, []impl.Box{box("ann", 8), box("bob", 12, 5), box("cat", 9)}, done, true},
		{two, done, math.MaxInt, two, done, true},
		{two, done, 0, two, done, true},
		{two, job(9, 0), 10, two, job(9, 0), true},
		{two, fresh, -1, nil, impl.Job{}, false},
		{two, done, -1, nil, impl.Job{}, false},
		{two, job(9, 0), math.MinInt, nil, impl.Job{}, false},
		{two, job(9, 3, "bob", "cat"), 1, nil, impl.Job{}, false},
		{two, job(9, -1, "bob", "cat"), 1, nil, impl.Job{}, false},
		{two, job(0, 0, "bob", "cat"), 1, nil, impl.Job{}, false},
		{two, job(1000, 0, "bob", "cat"), 1, nil, impl.Job{}, false},
		{two, job(1000, 0), 1, nil, impl.Job{}, false},
		{two, job(1, 0, "bob"), 1, []impl.Box{box("ann", 8), box("bob", 12, 5, 1)}, job(1, 1, "bob"), true},
		{two, job(999, 0, "bob"), 1, []impl.Box{box("ann", 8), box("bob", 999, 12, 5)}, job(999, 1, "bob"), true},
		{two, job(9, 0, "cat", "bob"), 1, nil, impl.Job{}, false},
	}
	for _, c := range cases {
		checkJobRun(t, c)
	}
}

// A box that is full loses its least number or stays as it is, and one that has the post stays as it is.
func TestJobRunFullBoxes(t *testing.T) {
	full := []impl.Box{box("bob", 60, 50, 40, 30, 20, 10), box("cat", 90, 80, 70, 60, 50, 40)}
	cases := []jobRunCase{
		{full, job(5, 0, "bob", "cat"), 2, full, job(5, 2, "bob", "cat"), true},
		{full, job(50, 0, "bob", "cat"), 2, full, job(50, 2, "bob", "cat"), true},
		{full, job(35, 0, "bob", "cat"), 2, []impl.Box{box("bob", 60, 50, 40, 35, 30, 20), full[1]}, job(35, 2, "bob", "cat"), true},
		{full, job(95, 0, "bob", "cat"), 1, []impl.Box{box("bob", 95, 60, 50, 40, 30, 20), full[1]}, job(95, 1, "bob", "cat"), true},
		{full, job(95, 1, "bob", "cat"), 1, []impl.Box{full[0], box("cat", 95, 90, 80, 70, 60, 50)}, job(95, 2, "bob", "cat"), true},
		{full, job(95, 2, "bob", "cat"), 1, full, job(95, 2, "bob", "cat"), true},
		{full, job(10, 0, "ann", "bob"), 2, []impl.Box{box("ann", 10), full[0], full[1]}, job(10, 2, "ann", "bob"), true},
	}
	for _, c := range cases {
		checkJobRun(t, c)
	}
}

// One box more than NamesMax can not begin, but only those of names that are next would.
func TestJobRunTenBoxes(t *testing.T) {
	nine, ten := boxRow(1, tenNames[:9]...), boxRow(1, tenNames...)
	first := []string{"a", "ann", "bob"}
	middle := []string{"ann", "anna", "bob"}
	last := []string{"ann", "bob", "kim"}
	both := []impl.Box{box("ann", 999, 40), box("bob", 999, 41)}
	cases := []jobRunCase{
		{ten, job(999, 0, last...), 0, ten, job(999, 0, last...), true},
		{ten, job(999, 0, last...), 2, append(cloneBoxes(both), ten[2:]...), job(999, 2, last...), true},
		{ten, job(999, 0, last...), 3, nil, impl.Job{}, false},
		{ten, job(999, 2, last...), 0, ten, job(999, 2, last...), true},
		{ten, job(999, 2, last...), 1, nil, impl.Job{}, false},
		{ten, job(999, 3, last...), 1, ten, job(999, 3, last...), true},
		{ten, job(999, 0, first...), 0, ten, job(999, 0, first...), true},
		{ten, job(999, 0, first...), 1, nil, impl.Job{}, false},
		{ten, job(999, 0, first...), 3, nil, impl.Job{}, false},
		{ten, job(999, 1, first...), 3, append(cloneBoxes(both), ten[2:]...), job(999, 3, first...), true},
		{ten, job(999, 0, middle...), 1, append(cloneBoxes(both[:1]), ten[1:]...), job(999, 1, middle...), true},
		{ten, job(999, 0, middle...), 2, nil, impl.Job{}, false},
		{ten, job(999, 0, middle...), 3, nil, impl.Job{}, false},
		{ten, job(999, 2, middle...), 3, []impl.Box{ten[0], both[1], ten[2], ten[3], ten[4], ten[5], ten[6], ten[7], ten[8], ten[9]}, job(999, 3, middle...), true},
		{nine, job(999, 0, last...), 3, append(append(cloneBoxes(both), nine[2:]...), box("kim", 999)), job(999, 3, last...), true},
		{nine, job(5, 0, "kim", "liz"), 1, append(cloneBoxes(nine), box("kim", 5)), job(5, 1, "kim", "liz"), true},
		{nine, job(5, 0, "kim", "liz"), 2, nil, impl.Job{}, false},
	}
	for _, c := range cases {
		checkJobRun(t, c)
	}
}

// The number of a job, and how many are told, matter for each name alike.
func TestJobRunNumbers(t *testing.T) {
	boxes := []impl.Box{box("bob", 999, 998, 500, 499, 2, 1), box("cat", 500)}
	for id := -1100; id <= 2100; id++ {
		j := job(id, 1, "ann", "bob", "cat", "dan")
		for _, many := range []int{0, 2, 3} {
			if id < 1 || id > 999 {
				checkJobRun(t, jobRunCase{boxes, j, many, nil, impl.Job{}, false})
				continue
			}
			want, behind, ok := wantRun(boxes, j, many)
			checkJobRun(t, jobRunCase{boxes, j, many, want, behind, ok})
		}
	}
}

// Boxes are the same for a job in turns, or with turns that are run again, as they are at once.
func TestJobRunInTurns(t *testing.T) {
	for _, boxes := range runBoxes() {
		j := job(34, 0, "ann", "bob", "cat", "dan", "eve", "fay")
		want, behind, ok := wantRun(boxes, j, 6)
		if !ok {
			continue
		}
		for step := 1; step <= 7; step++ {
			result, now := cloneBoxes(boxes), cloneJob(j)
			for range 6 {
				again, _, _ := impl.JobRun(result, now, step)
				result, now, ok = impl.JobRun(again, now, step)
				if !ok {
					t.Fatalf("JobRun(%v, %v, %d) fails", again, now, step)
				}
			}
			if !sameBoxes(result, want) || !sameJob(now, behind) {
				t.Errorf("%v leads to %v and %v with %d at a time; want %v and %v", boxes, result, now, step, want, behind)
			}
		}
	}
}

func TestJobRunInvalid(t *testing.T) {
	boxes := []impl.Box{box("bob", 5, 3), box("cat", 3)}
	for _, boxes := range [][]impl.Box{nil, boxes, boxRow(6, tenNames...)} {
		for _, j := range badJobs() {
			for _, many := range []int{0, 1, 10, math.MaxInt, -1, math.MinInt} {
				checkJobRun(t, jobRunCase{boxes, j, many, nil, impl.Job{}, false})
			}
		}
		for _, j := range goodJobs() {
			for _, many := range badManys {
				checkJobRun(t, jobRunCase{boxes, j, many, nil, impl.Job{}, false})
			}
		}
	}
}

// Invalid boxes fail even if nobody is next.
func TestJobRunInvalidBoxes(t *testing.T) {
	for _, boxes := range badBoxes() {
		jobs := []impl.Job{job(7, 0), job(7, 1, "kk"), job(7, 0, "kk"), job(7, 0, "ann", "bob"), job(7, 1, "ann", "zzzz"), job(0, 0, "ann")}
		for _, j := range jobs {
			for _, many := range []int{0, 1, 10, -1} {
				checkJobRun(t, jobRunCase{boxes, j, many, nil, impl.Job{}, false})
			}
		}
	}
}

func checkJobRun(t *testing.T, c jobRunCase) {
	t.Helper()
	got, behind, ok := impl.JobRun(cloneBoxes(c.boxes), cloneJob(c.j), c.many)
	if ok != c.ok || !sameBoxes(got, c.want) || !sameJob(behind, c.behind) {
		t.Errorf("JobRun(%v, %v, %d) returned %v, %v, %v; want %v, %v, %v", c.boxes, c.j, c.many, got, behind, ok, c.want, c.behind, c.ok)
	}
}
