package tests

import (
	"slices"
	"testing"

	"loop.example/fanoutlog/impl"
)

func TestNamesPutMemory(t *testing.T) {
	eachMemorySample(func(list []string, name string) { checkMemory(t, "NamesPut", impl.NamesPut, list, name) })
}

func TestNamesDropMemory(t *testing.T) {
	eachMemorySample(func(list []string, name string) { checkMemory(t, "NamesDrop", impl.NamesDrop, list, name) })
}

func TestNamesValidMemory(t *testing.T) {
	eachMemorySample(func(list []string, _ string) {
		whole, list := roomy(list)
		before := slices.Clone(whole)
		impl.NamesValid(list)
		if !slices.Equal(whole, before) {
			t.Errorf("NamesValid changed its argument to %q", whole)
		}
	})
}

func eachMemorySample(check func(list []string, name string)) {
	for _, list := range slices.Concat(goodLists(), badLists) {
		for _, name := range slices.Concat(goodNames, badNames) {
			check(list, name)
		}
	}
}

// roomy returns a list with room behind it, and the same memory with this room,
// so that an append to the argument can be noticed.
func roomy(list []string) ([]string, []string) {
	whole := append(slices.Clone(list), "room", "room", "room")
	return whole, whole[:len(list)]
}

// checkMemory checks that a call leaves its argument as it is, returns the same again,
// and that neither what it was given nor what it returned is changed through another result.
func checkMemory(t *testing.T, what string, call namesCall, list []string, name string) {
	t.Helper()
	whole, list := roomy(list)
	before := slices.Clone(whole)
	first, firstOk := call(list, name)
	if !slices.Equal(whole, before) {
		t.Errorf("%s(%q, %q) changed its argument to %q", what, before, name, whole)
	}
	want := slices.Clone(first)
	second, secondOk := call(list, name)
	if firstOk != secondOk || !slices.Equal(first, second) {
		t.Errorf("%s(%q, %q) returned %q, and %q then", what, list, name, first, second)
	}
	overwrite(second)
	if !slices.Equal(whole, before) || !slices.Equal(first, want) {
		t.Errorf("%s(%q, %q): its result shares memory", what, before[:len(list)], name)
	}
	overwrite(whole)
	if !slices.Equal(first, want) {
		t.Errorf("%s(%q, %q): its result changes with its argument", what, before[:len(list)], name)
	}
}

// overwrite changes all that a slice has room for.
func overwrite(list []string) {
	list = list[:cap(list)]
	for i := range list {
		list[i] = "over"
	}
}
