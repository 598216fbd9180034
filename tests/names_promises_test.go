package tests

import (
	"slices"
	"testing"

	"loop.example/fanoutlog/impl"
)

func TestP1PutNamesAreValidAndHaveTheName(t *testing.T) {
	eachPut(t, func(list []string, name string, result []string) {
		if !impl.NamesValid(result) || !slices.Contains(result, name) {
			t.Errorf("NamesPut(%q, %q) returned %q", list, name, result)
		}
	})
}

func TestP2PutChangesNothingButTheName(t *testing.T) {
	eachPut(t, func(list []string, name string, result []string) {
		if !slices.Equal(others(list, name), others(result, name)) {
			t.Errorf("NamesPut(%q, %q) returned %q: the other names differ", list, name, result)
		}
	})
}

func TestP3PutChangesNothingASecondTime(t *testing.T) {
	eachPut(t, func(list []string, name string, result []string) {
		again, ok := impl.NamesPut(slices.Clone(result), name)
		if !ok || !slices.Equal(again, result) {
			t.Errorf("NamesPut(%q, %q) returned %q, %v a second time", result, name, again, ok)
		}
	})
}

func TestP4DropUndoesPut(t *testing.T) {
	eachPut(t, func(list []string, name string, result []string) {
		if slices.Contains(list, name) {
			return
		}
		before, ok := impl.NamesDrop(slices.Clone(result), name)
		if !ok || !slices.Equal(before, list) {
			t.Errorf("NamesDrop(%q, %q) returned %q, %v; want %q", result, name, before, ok, list)
		}
	})
}

func TestP5DroppedNameIsGone(t *testing.T) {
	eachDrop(t, func(list []string, name string, result []string) {
		if !impl.NamesValid(result) || len(result) != len(list)-1 || slices.Contains(result, name) {
			t.Errorf("NamesDrop(%q, %q) returned %q", list, name, result)
		}
		if again, ok := impl.NamesDrop(slices.Clone(result), name); ok || len(again) != 0 {
			t.Errorf("NamesDrop(%q, %q) returned %q, %v a second time", result, name, again, ok)
		}
	})
}

func TestP6PutUndoesDrop(t *testing.T) {
	eachDrop(t, func(list []string, name string, result []string) {
		before, ok := impl.NamesPut(slices.Clone(result), name)
		if !ok || !slices.Equal(before, list) {
			t.Errorf("NamesPut(%q, %q) returned %q, %v; want %q", result, name, before, ok, list)
		}
	})
}

func TestP7LongerNamesAreInvalid(t *testing.T) {
	for _, name := range goodNames {
		if !impl.NameValid(name) || !impl.NameValid(name[:1]) {
			t.Errorf("%q or its first letter is no name", name)
		}
		for _, behind := range []string{"0", "1", "9", "aaaa", "zzzz", name + "abcd"} {
			if impl.NameValid(name + behind) {
				t.Errorf("%q is a name", name+behind)
			}
		}
	}
}

func TestP8NamesWithoutOneAndWithOneTwice(t *testing.T) {
	for _, list := range goodLists() {
		if !impl.NamesValid(list) {
			t.Errorf("%q are no names", list)
		}
		for i, name := range list {
			if less := removed(list, i); !impl.NamesValid(less) {
				t.Errorf("%q are no names", less)
			}
			for at := range len(list) + 1 {
				if more := inserted(list, at, name); impl.NamesValid(more) {
					t.Errorf("%q are names", more)
				}
			}
		}
	}
}

func TestP9PutKeepsTheLimitAndAllNames(t *testing.T) {
	eachPut(t, func(list []string, name string, result []string) {
		if len(result) > impl.NamesMax {
			t.Errorf("NamesPut(%q, %q) returned %d names", list, name, len(result))
		}
		for _, s := range result {
			again, ok := impl.NamesPut(slices.Clone(result), s)
			if !ok || !slices.Equal(again, result) {
				t.Errorf("NamesPut(%q, %q) returned %q, %v", result, s, again, ok)
			}
		}
	})
}

func TestP10DropTakesWhatIsThere(t *testing.T) {
	eachDrop(t, func(list []string, name string, result []string) {
		if !slices.Contains(list, name) {
			t.Errorf("NamesDrop(%q, %q) returned %q", list, name, result)
		}
		for i, s := range result {
			less, ok := impl.NamesDrop(slices.Clone(result), s)
			if !ok || !slices.Equal(less, removed(result, i)) {
				t.Errorf("NamesDrop(%q, %q) returned %q, %v", result, s, less, ok)
			}
		}
	})
}
