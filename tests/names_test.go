package tests

import (
	"slices"
	"strings"
	"testing"

	"loop.example/fanoutlog/impl"
)

func TestNamesMax(t *testing.T) {
	if impl.NamesMax != 10 {
		t.Errorf("NamesMax is %d", impl.NamesMax)
	}
}

func TestNameValidSamples(t *testing.T) {
	for _, s := range goodNames {
		if !impl.NameValid(s) {
			t.Errorf("NameValid(%q) does not hold", s)
		}
	}
	for _, s := range badNames {
		if impl.NameValid(s) {
			t.Errorf("NameValid(%q) holds", s)
		}
	}
}

func TestNameValidLengths(t *testing.T) {
	for n := range 20 {
		for _, letter := range []string{"a", "k", "z"} {
			s := strings.Repeat(letter, n)
			if want := n >= 1 && n <= 4; impl.NameValid(s) != want {
				t.Errorf("NameValid(%q) is not %v", s, want)
			}
		}
	}
}

// Any byte, at any place of a name of any length.
func TestNameValidBytes(t *testing.T) {
	for n := 1; n <= 4; n++ {
		for at := range n {
			for b := range 256 {
				s := []byte("kkkk")[:n]
				s[at] = byte(b)
				if want := b >= 'a' && b <= 'z'; impl.NameValid(string(s)) != want {
					t.Errorf("NameValid(%q) is not %v", s, want)
				}
			}
		}
	}
}

func TestNamesValidSamples(t *testing.T) {
	for _, list := range goodLists() {
		if !impl.NamesValid(list) {
			t.Errorf("NamesValid(%q) does not hold", list)
		}
	}
	for _, list := range badLists {
		if impl.NamesValid(list) {
			t.Errorf("NamesValid(%q) holds", list)
		}
	}
}

func TestNamesValidNilAndEmpty(t *testing.T) {
	if !impl.NamesValid(nil) || !impl.NamesValid([]string{}) {
		t.Error("no names are invalid")
	}
}

// Names ascend byte by byte: a name comes behind those that it begins with, and a short one behind a lesser long one.
func TestNamesValidOrder(t *testing.T) {
	for _, a := range goodNames {
		for _, b := range goodNames {
			if want := a < b; impl.NamesValid([]string{a, b}) != want {
				t.Errorf("NamesValid of %q and %q is not %v", a, b, want)
			}
		}
	}
}

func TestNamesValidBadNameAnywhere(t *testing.T) {
	for _, bad := range badNames {
		for at := range 4 {
			if list := inserted([]string{"ann", "bob", "cat"}, at, bad); impl.NamesValid(list) {
				t.Errorf("NamesValid(%q) holds", list)
			}
		}
	}
}

func TestNamesPutSamples(t *testing.T) {
	for _, list := range goodLists() {
		for _, name := range goodNames {
			want, ok := wantPut(list, name)
			checkNames(t, "NamesPut", impl.NamesPut, namesCase{list, name, want, ok})
		}
	}
}

func TestNamesPutCases(t *testing.T) {
	three := []string{"bob", "dan", "fay"}
	nine := tenNames[:9]
	cases := []namesCase{
		{nil, "ann", []string{"ann"}, true},
		{[]string{}, "a", []string{"a"}, true},
		{three, "ann", []string{"ann", "bob", "dan", "fay"}, true},
		{three, "cat", []string{"bob", "cat", "dan", "fay"}, true},
		{three, "eve", []string{"bob", "dan", "eve", "fay"}, true},
		{three, "gus", []string{"bob", "dan", "fay", "gus"}, true},
		{three, "bob", three, true},
		{three, "dan", three, true},
		{three, "fay", three, true},
		{[]string{"ab", "b"}, "abc", []string{"ab", "abc", "b"}, true},
		{[]string{"ab", "b"}, "a", []string{"a", "ab", "b"}, true},
		{nine, "jim", tenNames, true},
		{tenNames, "ann", tenNames, true},
		{tenNames, "eve", tenNames, true},
		{tenNames, "jim", tenNames, true},
		{tenNames, "a", nil, false},
		{tenNames, "dee", nil, false},
		{tenNames, "kim", nil, false},
	}
	for _, c := range cases {
		checkNames(t, "NamesPut", impl.NamesPut, c)
	}
}

func TestNamesPutInvalid(t *testing.T) {
	checkInvalid(t, "NamesPut", impl.NamesPut)
}

func TestNamesDropSamples(t *testing.T) {
	for _, list := range goodLists() {
		for _, name := range goodNames {
			want, ok := wantDrop(list, name)
			checkNames(t, "NamesDrop", impl.NamesDrop, namesCase{list, name, want, ok})
		}
	}
}

func TestNamesDropCases(t *testing.T) {
	three := []string{"bob", "dan", "fay"}
	cases := []namesCase{
		{[]string{"ann"}, "ann", nil, true},
		{three, "bob", []string{"dan", "fay"}, true},
		{three, "dan", []string{"bob", "fay"}, true},
		{three, "fay", []string{"bob", "dan"}, true},
		{tenNames, "ann", tenNames[1:], true},
		{tenNames, "jim", tenNames[:9], true},
		{nil, "ann", nil, false},
		{[]string{}, "ann", nil, false},
		{three, "ann", nil, false},
		{three, "cat", nil, false},
		{three, "gus", nil, false},
		{three, "bo", nil, false},
		{three, "bobb", nil, false},
		{tenNames, "dee", nil, false},
	}
	for _, c := range cases {
		checkNames(t, "NamesDrop", impl.NamesDrop, c)
	}
}

func TestNamesDropInvalid(t *testing.T) {
	checkInvalid(t, "NamesDrop", impl.NamesDrop)
}

// checkInvalid checks that a call fails if any argument is invalid.
func checkInvalid(t *testing.T, what string, call namesCall) {
	t.Helper()
	for _, list := range goodLists() {
		for _, name := range badNames {
			checkNames(t, what, call, namesCase{list, name, nil, false})
		}
	}
	for _, list := range badLists {
		for _, name := range slices.Concat(goodNames, badNames, list) {
			checkNames(t, what, call, namesCase{list, name, nil, false})
		}
	}
}

func checkNames(t *testing.T, what string, call namesCall, c namesCase) {
	t.Helper()
	if got, ok := call(slices.Clone(c.list), c.name); ok != c.ok || !slices.Equal(got, c.want) {
		t.Errorf("%s(%q, %q) returned %q, %v; want %q, %v", what, c.list, c.name, got, ok, c.want, c.ok)
	}
}
