package tests

import (
	"slices"
	"testing"

	"loop.example/fanoutlog/impl"
)

func TestPostsMax(t *testing.T) {
	if impl.PostsMax != 12 {
		t.Errorf("PostsMax is %d", impl.PostsMax)
	}
}

func TestPostsValidSamples(t *testing.T) {
	for _, list := range goodPosts() {
		if !impl.PostsValid(slices.Clone(list)) {
			t.Errorf("PostsValid(%#v) does not hold", list)
		}
	}
	for _, list := range badPosts() {
		if impl.PostsValid(slices.Clone(list)) {
			t.Errorf("PostsValid(%#v) holds", list)
		}
	}
}

func TestPostsValidNumbers(t *testing.T) {
	for id := -1100; id <= 2100; id++ {
		if want := id >= 1 && id <= 999; impl.PostsValid([]impl.Post{post(id, "ann")}) != want {
			t.Errorf("PostsValid of the number %d is not %v", id, want)
		}
	}
}

// Numbers are in range and ascend, whoever their authors are.
func TestPostsValidOrder(t *testing.T) {
	ids := slices.Concat(someIds, badIds)
	for _, a := range ids {
		for _, b := range ids {
			for _, author := range []string{"a", "kk", "zzzz"} {
				list := []impl.Post{post(a, "kk"), post(b, author)}
				if want := a >= 1 && a < b && b <= 999; impl.PostsValid(list) != want {
					t.Errorf("PostsValid(%#v) is not %v", list, want)
				}
			}
		}
	}
}

func TestPostsValidCounts(t *testing.T) {
	for many := range 40 {
		for _, from := range []int{1, 500, 960} {
			if want := many <= 12; impl.PostsValid(postRow(from, many, "ann", "bob")) != want {
				t.Errorf("PostsValid of %d posts from %d on is not %v", many, from, want)
			}
		}
	}
	if impl.PostsValid(postRow(1, 999, "ann")) {
		t.Error("all numbers are posts")
	}
}

// An invalid author, or a number that does not ascend, is invalid at any place.
func TestPostsValidPlaces(t *testing.T) {
	for at := range 12 {
		for _, name := range badNames {
			list := postRow(1, 12, "ann", "bob")
			list[at].Author = name
			if impl.PostsValid(list) {
				t.Errorf("PostsValid(%#v) holds", list)
			}
		}
		for _, id := range append([]int{at, at + 2, at + 50}, badIds...) {
			list := append(postRow(1, 11, "ann", "bob"), post(900, "ann"))
			list[at].Id = id
			want := idsAscend(list) && list[0].Id >= 1 && list[11].Id <= 999
			if impl.PostsValid(list) != want {
				t.Errorf("PostsValid(%#v) is not %v", list, want)
			}
		}
	}
}

func TestPostsAddSamples(t *testing.T) {
	for _, list := range goodPosts() {
		for _, author := range slices.Concat(fewAuthors, goodNames) {
			want, id, ok := wantAdd(list, author)
			checkAdd(t, addCase{list, author, want, id, ok})
		}
	}
}

func TestPostsAddCases(t *testing.T) {
	eleven, twelve := postRow(1, 11, "ann"), postRow(1, 12, "ann")
	cases := []addCase{
		{nil, "ann", []impl.Post{post(1, "ann")}, 1, true},
		{[]impl.Post{}, "zzzz", []impl.Post{post(1, "zzzz")}, 1, true},
		{[]impl.Post{post(1, "ann")}, "ann", []impl.Post{post(1, "ann"), post(2, "ann")}, 2, true},
		{[]impl.Post{post(5, "bob")}, "ann", []impl.Post{post(5, "bob"), post(6, "ann")}, 6, true},
		{[]impl.Post{post(1, "ann"), post(5, "bob")}, "cat", []impl.Post{post(1, "ann"), post(5, "bob"), post(6, "cat")}, 6, true},
		{[]impl.Post{post(2, "ann"), post(9, "bob")}, "ann", []impl.Post{post(2, "ann"), post(9, "bob"), post(10, "ann")}, 10, true},
		{[]impl.Post{post(998, "ann")}, "bob", []impl.Post{post(998, "ann"), post(999, "bob")}, 999, true},
		{[]impl.Post{post(999, "ann")}, "bob", nil, 0, false},
		{[]impl.Post{post(1, "bob"), post(999, "ann")}, "ann", nil, 0, false},
		{eleven, "bob", append(slices.Clone(eleven), post(12, "bob")), 12, true},
		{twelve, "ann", nil, 0, false},
		{twelve, "bob", nil, 0, false},
		{postRow(988, 11, "ann"), "bob", append(postRow(988, 11, "ann"), post(999, "bob")), 999, true},
		{postRow(988, 12, "ann"), "bob", nil, 0, false},
		{postRow(987, 12, "ann"), "bob", nil, 0, false},
		{postRow(989, 11, "ann"), "bob", nil, 0, false},
		{postRow(1, 13, "ann"), "bob", nil, 0, false},
	}
	for _, c := range cases {
		checkAdd(t, c)
	}
}

func TestPostsAddInvalid(t *testing.T) {
	for _, name := range badNames {
		for _, list := range goodPosts() {
			checkAdd(t, addCase{list, name, nil, 0, false})
		}
		checkAdd(t, addCase{[]impl.Post{post(1, name)}, name, nil, 0, false})
		checkAdd(t, addCase{postRow(1, 13, "ann"), name, nil, 0, false})
	}
	for _, list := range badPosts() {
		for _, author := range fewAuthors {
			checkAdd(t, addCase{list, author, nil, 0, false})
		}
	}
}

func TestPostsOfAndPostsAuthorSamples(t *testing.T) {
	for _, list := range goodPosts() {
		for _, author := range slices.Concat(goodNames, badNames) {
			checkOf(t, list, author, idsIn(list, author))
		}
		for _, id := range slices.Concat(someIds, badIds) {
			checkAuthor(t, list, id, authorIn(list, id))
		}
	}
}

func TestPostsOfCases(t *testing.T) {
	list := []impl.Post{post(1, "ann"), post(2, "bob"), post(5, "ann"), post(9, "anna"), post(998, "an"), post(999, "ann")}
	checkOf(t, list, "ann", []int{999, 5, 1})
	checkOf(t, list, "bob", []int{2})
	checkOf(t, list, "anna", []int{9})
	checkOf(t, list, "an", []int{998})
	for _, author := range []string{"", "a", "cat", "Ann", "ann ", "annan"} {
		checkOf(t, list, author, nil)
	}
	checkOf(t, nil, "ann", nil)
	checkOf(t, []impl.Post{}, "", nil)
	checkOf(t, postRow(988, 12, "ann"), "ann", []int{999, 998, 997, 996, 995, 994, 993, 992, 991, 990, 989, 988})
}

// Every number, of which all but a few are missing.
func TestPostsAuthorCases(t *testing.T) {
	list := []impl.Post{post(1, "ann"), post(2, "bob"), post(5, "ann"), post(9, "anna"), post(998, "an"), post(999, "cat")}
	authors := map[int]string{1: "ann", 2: "bob", 5: "ann", 9: "anna", 998: "an", 999: "cat"}
	for id := -1100; id <= 2100; id++ {
		checkAuthor(t, list, id, authors[id])
		checkAuthor(t, nil, id, "")
	}
	for _, id := range badIds {
		checkAuthor(t, list, id, "")
	}
}

func TestPostsOfAndPostsAuthorInvalid(t *testing.T) {
	for _, list := range badPosts() {
		names, ids := slices.Concat(fewAuthors, badNames), slices.Concat(someIds, badIds)
		for _, p := range list {
			names, ids = append(names, p.Author), append(ids, p.Id)
		}
		for _, name := range names {
			checkOf(t, list, name, nil)
		}
		for _, id := range ids {
			checkAuthor(t, list, id, "")
		}
	}
}

func checkAdd(t *testing.T, c addCase) {
	t.Helper()
	got, id, ok := impl.PostsAdd(slices.Clone(c.list), c.author)
	if ok != c.ok || id != c.id || !slices.Equal(got, c.want) {
		t.Errorf("PostsAdd(%#v, %q) returned %#v, %d, %v; want %#v, %d, %v", c.list, c.author, got, id, ok, c.want, c.id, c.ok)
	}
}

func checkOf(t *testing.T, list []impl.Post, author string, want []int) {
	t.Helper()
	if got := impl.PostsOf(slices.Clone(list), author); !slices.Equal(got, want) {
		t.Errorf("PostsOf(%#v, %q) returned %v; want %v", list, author, got, want)
	}
}

func checkAuthor(t *testing.T, list []impl.Post, id int, want string) {
	t.Helper()
	if got := impl.PostsAuthor(slices.Clone(list), id); got != want {
		t.Errorf("PostsAuthor(%#v, %d) returned %q; want %q", list, id, got, want)
	}
}
