package tests

import (
	"slices"
	"testing"

	"loop.example/fanoutlog/impl"
)

func TestP24AddedPostIsBehindAllOfBefore(t *testing.T) {
	eachAdd(t, func(a addResult) {
		behind := append(slices.Clone(a.list), post(a.id, a.author))
		if !impl.PostsValid(a.result) || !slices.Equal(a.result, behind) || !idsAscend(behind) {
			t.Errorf("PostsAdd(%#v, %q) returned %#v, %d", a.list, a.author, a.result, a.id)
		}
		if got := impl.PostsAuthor(a.result, a.id); got != a.author {
			t.Errorf("PostsAuthor(%#v, %d) returned %q; want %q", a.result, a.id, got, a.author)
		}
	})
}

func TestP25AddedNumberIsTheNextOne(t *testing.T) {
	eachAdd(t, func(a addResult) {
		want := 1
		if len(a.list) > 0 {
			want = a.list[len(a.list)-1].Id + 1
		}
		if a.id != want {
			t.Errorf("PostsAdd(%#v, %q) returned the number %d; want %d", a.list, a.author, a.id, want)
		}
	})
}

func TestP26AddedPostIsTheFirstOneOfItsAuthor(t *testing.T) {
	eachAdd(t, func(a addResult) {
		checkOf(t, a.result, a.author, append([]int{a.id}, impl.PostsOf(slices.Clone(a.list), a.author)...))
	})
}

func TestP27PostsOfDescendAndAreOfTheAuthor(t *testing.T) {
	some := 0
	for _, list := range slices.Concat(goodPosts(), badPosts()) {
		for _, author := range slices.Concat(fewAuthors, badNames) {
			ids := impl.PostsOf(slices.Clone(list), author)
			some += len(ids)
			for i, id := range ids {
				if i > 0 && ids[i-1] <= id || impl.PostsAuthor(slices.Clone(list), id) != author {
					t.Errorf("PostsOf(%#v, %q) returned %v", list, author, ids)
				}
			}
		}
	}
	if some == 0 {
		t.Error("nobody has posts")
	}
}

func TestP28PostsOfHasAllOfTheAuthor(t *testing.T) {
	for _, list := range goodPosts() {
		for _, author := range slices.Concat(fewAuthors, goodNames) {
			many := 0
			for _, p := range list {
				if p.Author == author {
					many++
				}
			}
			if got := impl.PostsOf(slices.Clone(list), author); len(got) != many {
				t.Errorf("PostsOf(%#v, %q) returned %v; want %d numbers", list, author, got, many)
			}
		}
	}
}

func TestP29AuthorHasThePost(t *testing.T) {
	some := 0
	for _, list := range slices.Concat(goodPosts(), badPosts()) {
		for _, id := range slices.Concat(someIds, badIds) {
			author := impl.PostsAuthor(slices.Clone(list), id)
			if author == "" {
				continue
			}
			some++
			if !slices.Contains(list, post(id, author)) || !slices.Contains(impl.PostsOf(slices.Clone(list), author), id) {
				t.Errorf("PostsAuthor(%#v, %d) returned %q", list, id, author)
			}
		}
	}
	if some == 0 {
		t.Error("no post has an author")
	}
}

func TestP30PostsWithoutOneAndWithOneTwice(t *testing.T) {
	for _, list := range goodPosts() {
		if !impl.PostsValid(slices.Clone(list)) {
			t.Errorf("%#v are no posts", list)
		}
		for at, p := range list {
			if less := slices.Delete(slices.Clone(list), at, at+1); !impl.PostsValid(less) {
				t.Errorf("%#v are no posts", less)
			}
			for twiceAt := range len(list) + 1 {
				if twice := slices.Insert(slices.Clone(list), twiceAt, p); impl.PostsValid(twice) {
					t.Errorf("%#v are posts", twice)
				}
			}
		}
	}
}

func TestP31AddedPostsKeepTheLimits(t *testing.T) {
	eachAdd(t, func(a addResult) {
		if len(a.result) > 12 || slices.ContainsFunc(a.result, func(p impl.Post) bool { return p.Id > 999 }) {
			t.Errorf("PostsAdd(%#v, %q) returned %#v", a.list, a.author, a.result)
		}
	})
	for _, c := range []struct{ last, more int }{{0, 12}, {1, 11}, {987, 11}, {988, 11}, {989, 10}, {997, 2}, {998, 1}, {999, 0}} {
		checkAddsUntilFull(t, c.last, c.more)
	}
}

// checkAddsUntilFull checks that so many posts, and no more, can be added behind one with a number, or behind none.
func checkAddsUntilFull(t *testing.T, last, more int) {
	t.Helper()
	var list []impl.Post
	if last > 0 {
		list = append(list, post(last, "ann"))
	}
	for i := range more {
		want := append(slices.Clone(list), post(last+i+1, "bob"))
		checkAdd(t, addCase{list, "bob", want, last + i + 1, true})
		list = want
	}
	checkAdd(t, addCase{list, "bob", nil, 0, false})
}

func TestP32AuthorOfAnyPost(t *testing.T) {
	for _, list := range slices.Concat(goodPosts(), badPosts()) {
		if !impl.PostsValid(slices.Clone(list)) {
			continue
		}
		for _, p := range list {
			checkAuthor(t, list, p.Id, p.Author)
		}
	}
}
