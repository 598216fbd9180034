package tests

import (
	"slices"
	"testing"

	"loop.example/fanoutlog/impl"
)

func TestBoxPutMemory(t *testing.T) {
	for _, ids := range slices.Concat(goodIds(), badBoxIds()) {
		for _, id := range slices.Concat(putIds, badIds) {
			whole, ids := roomyIds(ids)
			before := slices.Clone(whole)
			first, firstOk := impl.BoxPut(ids, id)
			want := slices.Clone(first)
			second, secondOk := impl.BoxPut(ids, id)
			if firstOk != secondOk || !slices.Equal(first, second) {
				t.Errorf("BoxPut(%v, %d) returned %v, and %v then", ids, id, first, second)
			}
			overwriteIds(second)
			if !slices.Equal(whole, before) || !slices.Equal(first, want) {
				t.Errorf("BoxPut(%v, %d) changed its argument, or shares memory", before[:len(ids)], id)
			}
			overwriteIds(whole)
			if !slices.Equal(first, want) {
				t.Errorf("BoxPut(%v, %d): its result changes with its argument", before[:len(ids)], id)
			}
		}
	}
}

func TestBoxesPutMemory(t *testing.T) {
	for _, list := range slices.Concat(goodBoxes(), badBoxes()) {
		for _, name := range append(slices.Clone(boxNames), "kk", "", "Ann") {
			for _, id := range []int{1, 34, 999, 0, 1000} {
				checkBoxesPutMemory(t, list, name, id)
			}
		}
	}
}

func checkBoxesPutMemory(t *testing.T, list []impl.Box, name string, id int) {
	t.Helper()
	whole, list := roomyBoxes(list)
	before := wholeBoxes(whole)
	first, firstOk := impl.BoxesPut(list, name, id)
	want := cloneBoxes(first)
	second, secondOk := impl.BoxesPut(list, name, id)
	if firstOk != secondOk || !sameBoxes(first, second) || !firstOk && len(first) != 0 {
		t.Errorf("BoxesPut(%v, %q, %d) returned %v, and %v then", list, name, id, first, second)
	}
	overwriteBoxes(second)
	if !sameBoxes(wholeBoxes(whole), before) || !sameBoxes(first, want) {
		t.Errorf("BoxesPut(%v, %q, %d) changed its argument, or shares memory", before[:len(list)], name, id)
	}
	overwriteBoxes(whole)
	if !sameBoxes(first, want) {
		t.Errorf("BoxesPut(%v, %q, %d): its result changes with its argument", before[:len(list)], name, id)
	}
}

func TestBoxesGetMemory(t *testing.T) {
	for _, list := range slices.Concat(goodBoxes(), badBoxes()) {
		for _, name := range append(slices.Clone(boxNames), badNames[:8]...) {
			whole, list := roomyBoxes(list)
			before := wholeBoxes(whole)
			first := impl.BoxesGet(list, name)
			want := slices.Clone(first)
			second := impl.BoxesGet(list, name)
			if !slices.Equal(first, second) {
				t.Errorf("BoxesGet(%v, %q) returned %v, and %v then", list, name, first, second)
			}
			overwriteIds(second)
			if !sameBoxes(wholeBoxes(whole), before) || !slices.Equal(first, want) {
				t.Errorf("BoxesGet(%v, %q) changed its argument, or shares memory", before[:len(list)], name)
			}
			overwriteBoxes(whole)
			if !slices.Equal(first, want) {
				t.Errorf("BoxesGet(%v, %q): its result changes with its argument", before[:len(list)], name)
			}
		}
	}
}

func TestBoxesValidMemory(t *testing.T) {
	for _, list := range slices.Concat(goodBoxes(), badBoxes()) {
		whole, list := roomyBoxes(list)
		before := wholeBoxes(whole)
		first, second := impl.BoxesValid(list), impl.BoxesValid(list)
		if first != second || !sameBoxes(wholeBoxes(whole), before) {
			t.Errorf("BoxesValid changed %v to %v, and %v to %v", before, whole, first, second)
		}
	}
}

// Boxes of an argument may share memory with each other; those of a result may not.
func TestBoxesPutResultOfSharedNumbers(t *testing.T) {
	ids := idRow(36, 6)
	list := []impl.Box{{Name: "x", Ids: ids[:3]}, {Name: "y", Ids: ids[:3]}, {Name: "z", Ids: ids[3:6]}}
	for _, name := range []string{"a", "x", "xx", "y", "z", "zz"} {
		for _, id := range []int{999, 36, 34, 33, 1} {
			want, _ := wantBoxesPut(list, name, id)
			checkBoxParts(t, boxesPutCase{list, name, id, want, true})
		}
	}
	if !slices.Equal(ids, idRow(36, 6)) {
		t.Errorf("the argument has become %v", ids)
	}
}

// checkBoxParts checks that no box of a result changes through another one.
func checkBoxParts(t *testing.T, c boxesPutCase) {
	t.Helper()
	for at := range c.want {
		result, ok := impl.BoxesPut(c.list, c.name, c.id)
		if ok != c.ok || !sameBoxes(result, c.want) {
			t.Fatalf("BoxesPut(%v, %q, %d) returned %v, %v; want %v", c.list, c.name, c.id, result, ok, c.want)
		}
		overwriteIds(result[at].Ids)
		for i, b := range result {
			if i != at && !sameBox(b, c.want[i]) {
				t.Errorf("%v changes with the box %q", b, result[at].Name)
			}
		}
	}
}

func TestBoxesNilAndEmpty(t *testing.T) {
	for _, none := range [][]impl.Box{nil, {}, make([]impl.Box, 0, 5), boxRow(1, "ann", "bob")[:0]} {
		if !impl.BoxesValid(none) {
			t.Error("no boxes are invalid")
		}
		for _, name := range boxNames {
			checkNoBoxes(t, none, name, 5, []impl.Box{box(name, 5)}, true)
			checkNoBoxes(t, none, name, 0, nil, false)
		}
		for _, name := range badNames {
			checkNoBoxes(t, none, name, 5, nil, false)
		}
	}
}

// checkNoBoxes checks BoxesPut and BoxesGet of no boxes, which are given as they are.
func checkNoBoxes(t *testing.T, none []impl.Box, name string, id int, want []impl.Box, wantOk bool) {
	t.Helper()
	if got := impl.BoxesGet(none, name); len(got) != 0 {
		t.Errorf("BoxesGet of none and %q returned %v", name, got)
	}
	if got, ok := impl.BoxesPut(none, name, id); ok != wantOk || !sameBoxes(got, want) {
		t.Errorf("BoxesPut of none, %q and %d returned %v, %v", name, id, got, ok)
	}
}

func TestBoxNumbersNilAndEmpty(t *testing.T) {
	for _, none := range [][]int{nil, {}, make([]int, 0, 5), idRow(9, 5)[:0]} {
		for _, id := range slices.Concat(putIds, badIds) {
			want, wantOk := []int{id}, id >= 1 && id <= 999
			if !wantOk {
				want = nil
			}
			if got, ok := impl.BoxPut(none, id); ok != wantOk || !slices.Equal(got, want) {
				t.Errorf("BoxPut of none and %d returned %v, %v", id, got, ok)
			}
		}
		list := []impl.Box{box("ann", 5), {Name: "bob", Ids: none}}
		checkBoxesInvalid(t, list)
		if got := impl.BoxesGet(list, "ann"); len(got) != 0 {
			t.Errorf("BoxesGet(%v, ann) returned %v", list, got)
		}
		if got, ok := impl.BoxesPut(list, "bob", 5); ok || len(got) != 0 {
			t.Errorf("BoxesPut(%v, bob, 5) returned %v, %v", list, got, ok)
		}
	}
}

// roomyIds returns numbers with room behind them, and the same memory with this room,
// so that an append to the argument can be noticed.
func roomyIds(ids []int) ([]int, []int) {
	whole := append(slices.Clone(ids), 77, 77, 77)
	return whole, whole[:len(ids)]
}

// roomyBoxes returns boxes with room behind them and behind their numbers, and the same memory with this room.
func roomyBoxes(list []impl.Box) ([]impl.Box, []impl.Box) {
	whole := make([]impl.Box, 0, len(list)+2)
	for _, b := range append(slices.Clone(list), box("room", 7), box("room", 7)) {
		_, b.Ids = roomyIds(b.Ids)
		whole = append(whole, b)
	}
	return whole, whole[:len(list)]
}

// wholeBoxes returns a copy of boxes, with all for which their numbers have room.
func wholeBoxes(list []impl.Box) []impl.Box {
	result := slices.Clone(list)
	for i, b := range result {
		result[i].Ids = slices.Clone(b.Ids[:cap(b.Ids)])
	}
	return result
}

// overwriteBoxes changes all boxes for which a slice has room, and all numbers for which these have.
func overwriteBoxes(list []impl.Box) {
	list = list[:cap(list)]
	for i := range list {
		overwriteIds(list[i].Ids)
		list[i] = box("over", 7)
	}
}
