package tests

import (
	"math"
	"slices"
	"testing"

	"loop.example/fanoutlog/impl"
)

// fewAuthors are authors with and without posts in goodPosts, some of which begin with others.
var fewAuthors = []string{"a", "ann", "anna", "bob", "cat", "z", "zzzz"}

// badIds are numbers that no post may have.
var badIds = []int{0, -1, -5, -999, 1000, 1001, 1999, 65537, math.MinInt32, math.MaxInt32, math.MinInt, math.MaxInt}

// someIds are numbers in range, of which goodPosts has some, and others are missing.
var someIds = []int{1, 2, 3, 4, 5, 6, 7, 8, 11, 12, 13, 20, 255, 256, 257, 500, 986, 987, 988, 997, 998, 999}

func post(id int, author string) impl.Post {
	return impl.Post{Id: id, Author: author}
}

// postRow returns so many posts with numbers from one on, whose authors take turns.
func postRow(from, many int, authors ...string) []impl.Post {
	var list []impl.Post
	for i := range many {
		list = append(list, post(from+i, authors[i%len(authors)]))
	}
	return list
}

// goodPosts returns lists of 0 to PostsMax posts, with and without numbers missing between, up to the number 999.
func goodPosts() [][]impl.Post {
	lists := [][]impl.Post{
		nil,
		{},
		{post(1, "a"), post(2, "ann"), post(3, "anna"), post(4, "an")},
		{post(7, "zzzz"), post(300, "a"), post(301, "zzzz"), post(900, "ann")},
		{post(1, "zzzz"), post(2, "cat"), post(3, "bob"), post(4, "ann"), post(5, "a")},
		{post(2, "ann"), post(4, "ann"), post(8, "bob"), post(16, "ann"), post(32, "cat"), post(64, "ann"), post(128, "ann")},
	}
	for _, id := range someIds {
		lists = append(lists, []impl.Post{post(id, "ann")})
	}
	for many := 1; many <= 12; many++ {
		lists = append(lists,
			postRow(1, many, "ann"),
			postRow(3, many, "ann", "bob", "cat"),
			postRow(999-many, many, "bob", "ann"),
			postRow(1000-many, many, "cat", "zzzz", "a", "ann", "bob"))
	}
	return append(lists, missingPosts()...)
}

// missingPosts returns all lists in which each of some numbers is missing, or one of "ann", or one of "bob".
func missingPosts() [][]impl.Post {
	lists := [][]impl.Post{nil}
	for _, id := range []int{1, 2, 6, 998, 999} {
		for _, list := range lists {
			lists = append(lists, append(slices.Clone(list), post(id, "ann")), append(slices.Clone(list), post(id, "bob")))
		}
	}
	return lists
}

// badPosts returns lists that are no posts: for a number, for an author, for the order of numbers, or for how many there are.
func badPosts() [][]impl.Post {
	lists := [][]impl.Post{
		{post(0, "ann"), post(1, "bob"), post(2, "ann")},
		{post(-1, "ann"), post(5, "bob")},
		{post(998, "ann"), post(999, "bob"), post(1000, "ann")},
		{post(1, "ann"), post(1000, "bob")},
		{post(2, "ann"), post(1, "ann")},
		{post(999, "ann"), post(1, "bob")},
		{post(1, "ann"), post(3, "bob"), post(2, "ann")},
		{post(2, "ann"), post(1, "bob"), post(3, "ann")},
		{post(3, "ann"), post(2, "bob"), post(1, "ann")},
		{post(4, "ann"), post(5, "bob"), post(1, "ann")},
		{post(1, "ann"), post(1, "ann")},
		{post(1, "ann"), post(1, "bob")},
		{post(999, "bob"), post(999, "ann")},
		{post(1, "ann"), post(2, "bob"), post(2, "cat"), post(3, "ann")},
		{post(1, "ann"), post(2, "bob"), post(3, "ann"), post(3, "ann")},
		{post(1, "ann"), post(2, "bob"), post(1, "ann")},
		{{}},
		{{}, post(1, "ann")},
		{post(1, "ann"), {}},
	}
	for _, id := range badIds {
		lists = append(lists, []impl.Post{post(id, "ann")})
	}
	for _, name := range badNames {
		lists = append(lists,
			[]impl.Post{post(1, name)},
			[]impl.Post{post(1, name), post(2, "ann"), post(3, "bob")},
			[]impl.Post{post(1, "ann"), post(2, name), post(3, "bob")},
			[]impl.Post{post(1, "ann"), post(2, "bob"), post(999, name)})
	}
	for many := 13; many < 30; many += 4 {
		lists = append(lists, postRow(1, many, "ann"), postRow(1000-many, many, "bob", "ann"))
	}
	return append(lists, badLongPosts()...)
}

// badLongPosts returns lists of PostsMax posts, or one more, of which the last one alone is bad.
func badLongPosts() [][]impl.Post {
	var lists [][]impl.Post
	for _, last := range []impl.Post{post(12, "Ann"), post(12, ""), post(11, "ann"), post(1, "ann"), post(0, "ann"), post(1000, "ann")} {
		lists = append(lists, append(postRow(1, 11, "ann", "bob"), last))
	}
	return append(lists, append(postRow(1, 12, "ann", "bob"), post(999, "ann")), append(postRow(1, 12, "ann"), post(12, "ann")))
}

// wantAdd returns what PostsAdd of good samples has to return, without the program's help.
func wantAdd(list []impl.Post, author string) ([]impl.Post, int, bool) {
	id := 1
	for _, p := range list {
		id = p.Id + 1
	}
	if len(list) == 12 || id == 1000 {
		return nil, 0, false
	}
	return append(slices.Clone(list), post(id, author)), id, true
}

// idsIn returns the numbers of all posts of an author, the greatest one first, without the program's help.
func idsIn(list []impl.Post, author string) []int {
	var ids []int
	for _, p := range list {
		if p.Author == author {
			ids = append([]int{p.Id}, ids...)
		}
	}
	return ids
}

// authorIn returns the author of the post with a number, or "", without the program's help.
func authorIn(list []impl.Post, id int) string {
	for _, p := range list {
		if p.Id == id {
			return p.Author
		}
	}
	return ""
}

// idsAscend reports whether numbers ascend, without the program's help.
func idsAscend(list []impl.Post) bool {
	for i := 1; i < len(list); i++ {
		if list[i-1].Id >= list[i].Id {
			return false
		}
	}
	return true
}

// addCase is what PostsAdd is given, and what it has to return.
type addCase struct {
	list   []impl.Post
	author string
	want   []impl.Post
	id     int
	ok     bool
}

// addResult is what PostsAdd was given, and the posts and the number that it returned.
type addResult struct {
	list   []impl.Post
	author string
	result []impl.Post
	id     int
}

// eachAdd calls check with each PostsAdd of good samples that succeeds.
func eachAdd(t *testing.T, check func(a addResult)) {
	t.Helper()
	succeeded := 0
	for _, list := range goodPosts() {
		for _, author := range fewAuthors {
			if result, id, ok := impl.PostsAdd(slices.Clone(list), author); ok {
				succeeded++
				check(addResult{list, author, result, id})
			}
		}
	}
	if succeeded == 0 {
		t.Fatal("PostsAdd never succeeds")
	}
}
