package tests

import (
	"slices"
	"testing"

	"loop.example/fanoutlog/impl"
)

func TestPostsAddMemory(t *testing.T) {
	eachPostsSample(func(list []impl.Post, author string) {
		whole, list := roomyPosts(list)
		before := slices.Clone(whole)
		first, firstId, firstOk := impl.PostsAdd(list, author)
		want := slices.Clone(first)
		second, secondId, secondOk := impl.PostsAdd(list, author)
		if firstOk != secondOk || firstId != secondId || !slices.Equal(first, second) {
			t.Errorf("PostsAdd(%#v, %q) returned %#v, and %#v then", list, author, first, second)
		}
		overwritePosts(second)
		if !slices.Equal(whole, before) || !slices.Equal(first, want) {
			t.Errorf("PostsAdd(%#v, %q) changed its argument, or shares memory", before[:len(list)], author)
		}
		overwritePosts(whole)
		if !slices.Equal(first, want) {
			t.Errorf("PostsAdd(%#v, %q): its result changes with its argument", before[:len(list)], author)
		}
	})
}

func TestPostsOfMemory(t *testing.T) {
	eachPostsSample(func(list []impl.Post, author string) {
		whole, list := roomyPosts(list)
		before := slices.Clone(whole)
		first := impl.PostsOf(list, author)
		want := slices.Clone(first)
		second := impl.PostsOf(list, author)
		if !slices.Equal(first, second) {
			t.Errorf("PostsOf(%#v, %q) returned %#v, and %#v then", list, author, first, second)
		}
		overwriteIds(second)
		if !slices.Equal(whole, before) || !slices.Equal(first, want) {
			t.Errorf("PostsOf(%#v, %q) changed its argument, or shares memory", before[:len(list)], author)
		}
	})
}

func TestPostsValidAndPostsAuthorMemory(t *testing.T) {
	eachPostsSample(func(list []impl.Post, _ string) {
		whole, list := roomyPosts(list)
		before := slices.Clone(whole)
		impl.PostsValid(list)
		if !slices.Equal(whole, before) {
			t.Errorf("PostsValid changed %#v to %#v", before, whole)
		}
		for _, id := range slices.Concat(someIds, badIds) {
			first, second := impl.PostsAuthor(list, id), impl.PostsAuthor(list, id)
			if first != second || !slices.Equal(whole, before) {
				t.Errorf("PostsAuthor changed %#v to %#v, and %q to %q", before, whole, first, second)
			}
		}
	})
}

func TestPostsNilAndEmpty(t *testing.T) {
	if !impl.PostsValid(nil) || !impl.PostsValid([]impl.Post{}) {
		t.Error("no posts are invalid")
	}
	for _, none := range [][]impl.Post{nil, {}, make([]impl.Post, 0, 5), postRow(1, 5, "ann")[:0]} {
		for _, author := range fewAuthors {
			checkOf(t, none, author, nil)
			got, id, ok := impl.PostsAdd(none, author)
			if !ok || id != 1 || !slices.Equal(got, []impl.Post{post(1, author)}) {
				t.Errorf("PostsAdd of none and %q returned %#v, %d, %v", author, got, id, ok)
			}
		}
		for _, name := range badNames {
			if got, id, ok := impl.PostsAdd(none, name); ok || id != 0 || len(got) != 0 {
				t.Errorf("PostsAdd of none and %q returned %#v, %d, %v", name, got, id, ok)
			}
		}
		for _, id := range slices.Concat(someIds, badIds) {
			checkAuthor(t, none, id, "")
		}
	}
}

// eachPostsSample calls check with good and bad samples, and good and bad names.
func eachPostsSample(check func(list []impl.Post, author string)) {
	for _, list := range slices.Concat(goodPosts(), badPosts()) {
		for _, author := range append(slices.Clone(fewAuthors), badNames[:8]...) {
			check(list, author)
		}
	}
}

// roomyPosts returns posts with room behind them, and the same memory with this room,
// so that an append to the argument can be noticed.
func roomyPosts(list []impl.Post) ([]impl.Post, []impl.Post) {
	whole := append(slices.Clone(list), post(7, "room"), post(7, "room"), post(7, "room"))
	return whole, whole[:len(list)]
}

// overwritePosts changes all that a slice has room for.
func overwritePosts(list []impl.Post) {
	list = list[:cap(list)]
	for i := range list {
		list[i] = post(-7, "over")
	}
}

// overwriteIds changes all that a slice has room for.
func overwriteIds(ids []int) {
	ids = ids[:cap(ids)]
	for i := range ids {
		ids[i] = -7
	}
}
