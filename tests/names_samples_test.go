package tests

import (
	"maps"
	"slices"
	"strings"
	"testing"

	"loop.example/fanoutlog/impl"
)

// tenNames are as many names as a list may have.
var tenNames = []string{"ann", "bob", "cat", "dan", "eve", "fay", "gus", "hal", "ida", "jim"}

// goodNames include the first and the last name that there can be, names that begin with others,
// and names ahead of, between and behind those of tenNames.
var goodNames = []string{
	"a", "aa", "aaa", "aaaa", "ab", "ann", "anna", "b", "bo", "bob", "cat", "dan", "eve", "fay", "gus", "hal",
	"ida", "jim", "kim", "m", "z", "zed", "zz", "zzzz",
}

var badNames = []string{
	"", "abcde", "aaaaaaaa", "zzzzz", "A", "Z", "Ann", "aNn", "anN", "abcD", "1", "a1", "an9", "0ab", " ", " a", "a ",
	"a b", "ann\n", "\n", "\x00", "a\x00", "`", "a`", "{", "ab{d", "a-b", "a_b", "é", "aé", "ß", "\xff", "a\xff", "ａ",
	strings.Repeat("a", 10000),
}

var badLists = [][]string{
	{""}, {"abcde"}, {"A"}, {"a1"}, {"a "}, {"é"}, {"\xff"},
	{"", "ann"}, {"Ann", "bob"}, {"ann", "bob1"}, {"ann", ""}, {"ann", "b", "cator"}, {"ann", "bOb", "cat"},
	{"bob", "ann"}, {"ab", "a"}, {"b", "ab"}, {"bob", "cat", "ann"}, {"ann", "cat", "bob"}, {"b", "a", "c"},
	{"ann", "ann"}, {"ann", "ann", "bob"}, {"ann", "bob", "bob"}, {"ann", "bob", "ann"}, {"a", "b", "b", "c"},
	append(slices.Clone(tenNames), "kim"),
	append([]string{"a"}, tenNames...),
	append(slices.Clone(tenNames), "kim", "liz"),
	append(slices.Clone(tenNames), "jim"),
	append(slices.Clone(tenNames[:9]), "ida"),
	append(slices.Clone(tenNames[:9]), "aha"),
	append(slices.Clone(tenNames[:9]), "jimmy"),
}

// goodLists returns all lists of some names, and lists of 0 to NamesMax names.
func goodLists() [][]string {
	few := []string{"a", "ab", "bob", "m", "zzzz"}
	var lists [][]string
	for set := range 1 << len(few) {
		var list []string
		for i, name := range few {
			if set>>i&1 == 1 {
				list = append(list, name)
			}
		}
		lists = append(lists, list)
	}
	for n := range len(tenNames) + 1 {
		lists = append(lists, slices.Clone(tenNames[:n]), slices.Clone(tenNames[n:]))
	}
	return append(lists, []string{})
}

// wantPut returns what NamesPut of good samples has to return, without the program's help.
func wantPut(list []string, name string) ([]string, bool) {
	set := map[string]bool{name: true}
	for _, s := range list {
		set[s] = true
	}
	if len(set) > 10 {
		return nil, false
	}
	return slices.Sorted(maps.Keys(set)), true
}

// wantDrop returns what NamesDrop of good samples has to return, without the program's help.
func wantDrop(list []string, name string) ([]string, bool) {
	if !slices.Contains(list, name) {
		return nil, false
	}
	return others(list, name), true
}

// others returns the names of a list without one.
func others(list []string, name string) []string {
	return slices.DeleteFunc(slices.Clone(list), func(s string) bool { return s == name })
}

// namesCall is NamesPut or NamesDrop.
type namesCall func(list []string, name string) ([]string, bool)

// namesCase is what a call is given, and what it has to return.
type namesCase struct {
	list []string
	name string
	want []string
	ok   bool
}

// eachPut calls check with each NamesPut of good samples that succeeds.
func eachPut(t *testing.T, check func(list []string, name string, result []string)) {
	t.Helper()
	eachSample(t, "NamesPut", impl.NamesPut, check)
}

// eachDrop calls check with each NamesDrop of good samples that succeeds.
func eachDrop(t *testing.T, check func(list []string, name string, result []string)) {
	t.Helper()
	eachSample(t, "NamesDrop", impl.NamesDrop, check)
}

func eachSample(t *testing.T, what string, call namesCall, check func([]string, string, []string)) {
	t.Helper()
	succeeded := 0
	for _, list := range goodLists() {
		for _, name := range goodNames {
			if result, ok := call(slices.Clone(list), name); ok {
				succeeded++
				check(list, name, result)
			}
		}
	}
	if succeeded == 0 {
		t.Fatalf("%s never succeeds", what)
	}
}

// removed returns a list without what is at a place.
func removed(list []string, at int) []string {
	return slices.Delete(slices.Clone(list), at, at+1)
}

// inserted returns a list with a name in front of a place.
func inserted(list []string, at int, name string) []string {
	return slices.Insert(slices.Clone(list), at, name)
}
