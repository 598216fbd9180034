package tests

import (
	"math"
	"slices"
	"testing"

	"loop.example/fanoutlog/impl"
)

func TestJobsMax(t *testing.T) {
	if impl.JobsMax != 6 {
		t.Errorf("JobsMax is %d", impl.JobsMax)
	}
}

func TestJobValidSamples(t *testing.T) {
	for _, j := range slices.Concat(goodJobs(), runJobs()) {
		checkJobValid(t, j, true)
	}
	for _, j := range badJobs() {
		checkJobValid(t, j, false)
	}
}

func TestJobValidNumbers(t *testing.T) {
	for id := -1100; id <= 2100; id++ {
		for _, j := range []impl.Job{job(id, 0), job(id, 0, "ann"), job(id, 1, "ann"), job(id, 1, "ann", "bob")} {
			checkJobValid(t, j, id >= 1 && id <= 999)
		}
	}
}

// From none to all names may be done, however many there are, if they are not more than NamesMax.
func TestJobValidDone(t *testing.T) {
	names := append(slices.Clone(tenNames), "kim", "liz")
	for many := range len(names) + 1 {
		for done := -15; done <= 15; done++ {
			checkJobValid(t, job(5, done, names[:many]...), many <= 10 && done >= 0 && done <= many)
		}
	}
}

// A bad name, and one that does not ascend, are invalid at any place, done or not.
func TestJobValidPlaces(t *testing.T) {
	for at := range tenNames {
		for done := range 11 {
			for _, name := range badNames {
				j := job(5, done, tenNames...)
				j.To[at] = name
				checkJobValid(t, j, false)
			}
			for other, name := range tenNames {
				j := job(5, done, tenNames...)
				j.To[at] = name
				checkJobValid(t, j, at == other)
			}
		}
	}
}

func TestJobNewSamples(t *testing.T) {
	for _, list := range goodAccounts() {
		for _, author := range fewNames {
			for _, id := range []int{0, 1, 2, 500, 998, 999, 1000} {
				want, ok := wantNew(list, author, id)
				checkJobNew(t, jobNewCase{list, author, id, want, ok})
			}
		}
	}
}

func TestJobNewCases(t *testing.T) {
	list := []impl.Account{account("ann", "bob", "cat"), account("bob"), account("eve", tenNames[:4]...), account("zed", tenNames...)}
	six := []impl.Account{account("a", "zz"), account("b"), account("c", "a"), account("d"), account("e"), account("f", "a", "b", "zzzz")}
	cases := []jobNewCase{
		{list, "ann", 9, job(9, 0, "bob", "cat"), true},
		{list, "ann", 1, job(1, 0, "bob", "cat"), true},
		{list, "ann", 999, job(999, 0, "bob", "cat"), true},
		{list, "ann", 0, impl.Job{}, false},
		{list, "ann", 1000, impl.Job{}, false},
		{list, "ann", -9, impl.Job{}, false},
		{list, "bob", 9, job(9, 0), true},
		{list, "bob", 0, impl.Job{}, false},
		{list, "bob", 1000, impl.Job{}, false},
		{list, "eve", 12, job(12, 0, "ann", "bob", "cat", "dan"), true},
		{list, "zed", 12, job(12, 0, tenNames...), true},
		{list, "cat", 9, impl.Job{}, false},
		{list, "an", 9, impl.Job{}, false},
		{list, "anna", 9, impl.Job{}, false},
		{list, "", 9, impl.Job{}, false},
		{list, "Ann", 9, impl.Job{}, false},
		{six, "a", 5, job(5, 0, "zz"), true},
		{six, "f", 5, job(5, 0, "a", "b", "zzzz"), true},
		{six, "zzzz", 5, impl.Job{}, false},
		{nil, "ann", 9, impl.Job{}, false},
		{[]impl.Account{}, "ann", 9, impl.Job{}, false},
		{[]impl.Account{account("ann", "ann", "bob")}, "ann", 9, impl.Job{}, false},
		{[]impl.Account{account("ann", "bob"), account("ann", "bob")}, "ann", 9, impl.Job{}, false},
		{append(cloneAccounts(six), account("g")), "a", 5, impl.Job{}, false},
	}
	for _, c := range cases {
		checkJobNew(t, c)
	}
}

func TestJobNewNumbers(t *testing.T) {
	list := []impl.Account{account("ann", "bob", "cat"), account("bob")}
	for id := -1100; id <= 2100; id++ {
		for _, author := range []string{"ann", "bob", "cat"} {
			want, ok := wantNew(list, author, id)
			checkJobNew(t, jobNewCase{list, author, id, want, ok})
		}
	}
}

func TestJobNewInvalid(t *testing.T) {
	for i, list := range goodAccounts() {
		for _, author := range badNames {
			checkJobNew(t, jobNewCase{list, author, 5, impl.Job{}, false})
		}
		if i%9 == 0 {
			for _, author := range fewNames {
				for _, id := range badIds {
					checkJobNew(t, jobNewCase{list, author, id, impl.Job{}, false})
				}
			}
		}
	}
	for _, list := range badAccounts() {
		authors := slices.Clone(fewNames)
		for _, a := range list {
			authors = append(authors, a.Name)
		}
		for _, author := range authors {
			for _, id := range []int{1, 5, 999, 0, 1000} {
				checkJobNew(t, jobNewCase{list, author, id, impl.Job{}, false})
			}
		}
	}
}

func TestJobNextSamples(t *testing.T) {
	for _, j := range slices.Concat(goodJobs(), runJobs()) {
		for _, many := range goodManys {
			names, behind := wantNext(j, many)
			checkJobNext(t, jobNextCase{j, many, names, behind, true})
		}
	}
}

func TestJobNextCases(t *testing.T) {
	fresh, some, done := job(9, 0, "ann", "bob", "cat"), job(9, 1, "ann", "bob", "cat"), job(9, 3, "ann", "bob", "cat")
	cases := []jobNextCase{
		{fresh, 0, nil, fresh, true},
		{fresh, 1, []string{"ann"}, some, true},
		{fresh, 2, []string{"ann", "bob"}, job(9, 2, "ann", "bob", "cat"), true},
		{fresh, 3, []string{"ann", "bob", "cat"}, done, true},
		{fresh, 4, []string{"ann", "bob", "cat"}, done, true},
		{fresh, math.MaxInt, []string{"ann", "bob", "cat"}, done, true},
		{fresh, -1, nil, impl.Job{}, false},
		{some, 0, nil, some, true},
		{some, 1, []string{"bob"}, job(9, 2, "ann", "bob", "cat"), true},
		{some, 2, []string{"bob", "cat"}, done, true},
		{some, 3, []string{"bob", "cat"}, done, true},
		{some, math.MaxInt, []string{"bob", "cat"}, done, true},
		{some, -1, nil, impl.Job{}, false},
		{done, 0, nil, done, true},
		{done, 1, nil, done, true},
		{done, 10, nil, done, true},
		{done, math.MaxInt, nil, done, true},
		{done, -1, nil, impl.Job{}, false},
		{done, math.MinInt, nil, impl.Job{}, false},
		{job(1, 0), 0, nil, job(1, 0), true},
		{job(1, 0), 1, nil, job(1, 0), true},
		{job(999, 0), 10, nil, job(999, 0), true},
		{job(1, 0), -1, nil, impl.Job{}, false},
		{job(0, 0, "ann"), 1, nil, impl.Job{}, false},
		{job(1000, 0, "ann"), 1, nil, impl.Job{}, false},
		{job(9, -1, "ann"), 1, nil, impl.Job{}, false},
		{job(9, 2, "ann"), 1, nil, impl.Job{}, false},
		{job(9, 0, "bob", "ann"), 1, nil, impl.Job{}, false},
		{job(999, 0, tenNames...), 10, tenNames, job(999, 10, tenNames...), true},
		{job(999, 9, tenNames...), 10, []string{"jim"}, job(999, 10, tenNames...), true},
		{job(999, 0, append(slices.Clone(tenNames), "kim")...), 10, nil, impl.Job{}, false},
	}
	for _, c := range cases {
		checkJobNext(t, c)
	}
}

// Each number of names, with each number done, is told in turns of each number, and no name twice.
func TestJobNextInTurns(t *testing.T) {
	for many := range 11 {
		for done := range many + 1 {
			for step := 1; step <= 11; step++ {
				j := job(7, done, tenNames[:many]...)
				var told []string
				for range 10 {
					names, behind, ok := impl.JobNext(j, step)
					if !ok {
						t.Fatalf("JobNext(%v, %d) fails", j, step)
					}
					told, j = append(told, names...), behind
				}
				if !slices.Equal(told, tenNames[done:many]) || !sameJob(j, job(7, many, tenNames[:many]...)) {
					t.Errorf("%d at a time, %q are told from %d on, and the job is %v", step, told, done, j)
				}
			}
		}
	}
}

func TestJobNextInvalid(t *testing.T) {
	for _, j := range goodJobs() {
		for _, many := range badManys {
			checkJobNext(t, jobNextCase{j, many, nil, impl.Job{}, false})
		}
	}
	for _, j := range badJobs() {
		for _, many := range slices.Concat(goodManys, badManys) {
			checkJobNext(t, jobNextCase{j, many, nil, impl.Job{}, false})
		}
	}
}

func checkJobValid(t *testing.T, j impl.Job, want bool) {
	t.Helper()
	if impl.JobValid(cloneJob(j)) != want {
		t.Errorf("JobValid(%v) is not %v", j, want)
	}
}

func checkJobNew(t *testing.T, c jobNewCase) {
	t.Helper()
	got, ok := impl.JobNew(cloneAccounts(c.list), c.author, c.id)
	if ok != c.ok || !sameJob(got, c.want) {
		t.Errorf("JobNew(%q, %q, %d) returned %v, %v; want %v, %v", c.list, c.author, c.id, got, ok, c.want, c.ok)
	}
}

func checkJobNext(t *testing.T, c jobNextCase) {
	t.Helper()
	names, behind, ok := impl.JobNext(cloneJob(c.j), c.many)
	if ok != c.ok || !slices.Equal(names, c.names) || !sameJob(behind, c.behind) {
		t.Errorf("JobNext(%v, %d) returned %q, %v, %v; want %q, %v, %v", c.j, c.many, names, behind, ok, c.names, c.behind, c.ok)
	}
}
