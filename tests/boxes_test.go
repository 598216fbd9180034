package tests

import (
	"slices"
	"testing"

	"loop.example/fanoutlog/impl"
)

func TestBoxMax(t *testing.T) {
	if impl.BoxMax != 6 {
		t.Errorf("BoxMax is %d", impl.BoxMax)
	}
}

func TestBoxesValidSamples(t *testing.T) {
	for _, list := range goodBoxes() {
		if !impl.BoxesValid(cloneBoxes(list)) {
			t.Errorf("BoxesValid(%v) does not hold", list)
		}
	}
	for _, list := range badBoxes() {
		if impl.BoxesValid(cloneBoxes(list)) {
			t.Errorf("BoxesValid(%v) holds", list)
		}
	}
}

func TestBoxesValidNumbers(t *testing.T) {
	for id := -1100; id <= 2100; id++ {
		if want := id >= 1 && id <= 999; impl.BoxesValid([]impl.Box{box("ann", id)}) != want {
			t.Errorf("BoxesValid of the number %d is not %v", id, want)
		}
	}
}

// Numbers are in range and descend, in any box of a list.
func TestBoxesValidOrderOfNumbers(t *testing.T) {
	ids := slices.Concat(someIds, badIds)
	for _, a := range ids {
		for _, b := range ids {
			for at := range 3 {
				list := boxRow(2, "ann", "bob", "cat")
				list[at].Ids = []int{a, b}
				if want := a <= 999 && a > b && b >= 1; impl.BoxesValid(list) != want {
					t.Errorf("BoxesValid(%v) is not %v", list, want)
				}
			}
		}
	}
}

// Names of boxes ascend byte by byte, whatever their numbers are.
func TestBoxesValidOrderOfNames(t *testing.T) {
	for _, a := range goodNames {
		for _, b := range goodNames {
			list := []impl.Box{box(a, 5), box(b, 5, 3)}
			if want := a < b; impl.BoxesValid(list) != want {
				t.Errorf("BoxesValid(%v) is not %v", list, want)
			}
		}
	}
}

// A box has 1 to BoxMax numbers, and there are at most NamesMax boxes.
func TestBoxesValidCounts(t *testing.T) {
	names := append(slices.Clone(tenNames), "kim", "liz", "max")
	for boxes := range len(names) + 1 {
		for many := range 10 {
			want := boxes == 0 || boxes <= 10 && many >= 1 && many <= 6
			if impl.BoxesValid(boxRow(many, names[:boxes]...)) != want {
				t.Errorf("BoxesValid of %d boxes with %d numbers is not %v", boxes, many, want)
			}
		}
	}
}

// A bad box is invalid at any place, with others that are full or not.
func TestBoxesValidPlaces(t *testing.T) {
	for at := range 10 {
		for _, many := range []int{1, 6} {
			for _, name := range badNames {
				list := boxRow(many, tenNames...)
				list[at].Name = name
				checkBoxesInvalid(t, list)
			}
			for _, ids := range append(badBoxIds(), nil, []int{}) {
				list := boxRow(many, tenNames...)
				list[at].Ids = ids
				checkBoxesInvalid(t, list)
			}
		}
	}
}

func checkBoxesInvalid(t *testing.T, list []impl.Box) {
	t.Helper()
	if impl.BoxesValid(list) {
		t.Errorf("BoxesValid(%v) holds", list)
	}
}

func TestBoxPutSamples(t *testing.T) {
	for _, ids := range goodIds() {
		for _, id := range slices.Concat(putIds, someIds) {
			checkBoxPut(t, boxPutCase{ids, id, wantBoxPut(ids, id), true})
		}
	}
}

func TestBoxPutCases(t *testing.T) {
	full := []int{60, 50, 40, 30, 20, 10}
	cases := []boxPutCase{
		{nil, 1, []int{1}, true},
		{[]int{}, 999, []int{999}, true},
		{[]int{5}, 5, []int{5}, true},
		{[]int{5}, 4, []int{5, 4}, true},
		{[]int{5}, 6, []int{6, 5}, true},
		{[]int{5, 3}, 4, []int{5, 4, 3}, true},
		{[]int{999, 1}, 999, []int{999, 1}, true},
		{[]int{999, 1}, 1, []int{999, 1}, true},
		{[]int{60, 50, 40, 30, 20}, 10, full, true},
		{[]int{50, 40, 30, 20, 10}, 60, full, true},
		{[]int{60, 50, 30, 20, 10}, 40, full, true},
		{full, 999, []int{999, 60, 50, 40, 30, 20}, true},
		{full, 61, []int{61, 60, 50, 40, 30, 20}, true},
		{full, 60, full, true},
		{full, 59, []int{60, 59, 50, 40, 30, 20}, true},
		{full, 35, []int{60, 50, 40, 35, 30, 20}, true},
		{full, 30, full, true},
		{full, 11, []int{60, 50, 40, 30, 20, 11}, true},
		{full, 10, full, true},
		{full, 9, full, true},
		{full, 1, full, true},
		{full, 0, nil, false},
		{full, 1000, nil, false},
		{nil, 0, nil, false},
		{nil, 1000, nil, false},
		{idRow(7, 7), 8, nil, false},
		{idRow(7, 7), 7, nil, false},
		{[]int{3, 5}, 4, nil, false},
		{[]int{5, 5}, 4, nil, false},
	}
	for _, c := range cases {
		checkBoxPut(t, c)
	}
}

// Every number, put into boxes that are empty, in part full, and full.
func TestBoxPutNumbers(t *testing.T) {
	for _, ids := range [][]int{nil, {500}, {999, 1}, {999, 998, 500, 499, 2, 1}, idRow(999, 6), idRow(6, 6), idRow(500, 6)} {
		for id := -1100; id <= 2100; id++ {
			if id >= 1 && id <= 999 {
				checkBoxPut(t, boxPutCase{ids, id, wantBoxPut(ids, id), true})
			} else {
				checkBoxPut(t, boxPutCase{ids, id, nil, false})
			}
		}
	}
}

// A box keeps the greatest of many numbers, in whatever order these come.
func TestBoxPutOfManyNumbers(t *testing.T) {
	for step := 1; step <= 400; step += 7 {
		var ids, all []int
		for i := range 40 {
			id := 1 + (i*step*step+17*i)%999
			all = append(all, id)
			want := wantBoxPut(all, id)
			checkBoxPut(t, boxPutCase{ids, id, want, true})
			ids = want
		}
	}
}

func TestBoxPutInvalid(t *testing.T) {
	for _, ids := range goodIds() {
		for _, id := range badIds {
			checkBoxPut(t, boxPutCase{ids, id, nil, false})
		}
	}
	for _, ids := range badBoxIds() {
		for _, id := range slices.Concat(putIds, badIds, ids) {
			checkBoxPut(t, boxPutCase{ids, id, nil, false})
		}
	}
}

func TestBoxesPutSamples(t *testing.T) {
	for _, list := range goodBoxes() {
		for _, name := range boxNames {
			for _, id := range putIds {
				want, ok := wantBoxesPut(list, name, id)
				checkBoxesPut(t, boxesPutCase{list, name, id, want, ok})
			}
		}
	}
}

func TestBoxesPutCases(t *testing.T) {
	two := []impl.Box{box("bob", 5, 3), box("cat", 3)}
	full := []impl.Box{box("bob", 60, 50, 40, 30, 20, 10)}
	nine, ten := boxRow(1, tenNames[:9]...), boxRow(1, tenNames...)
	cases := []boxesPutCase{
		{nil, "ann", 1, []impl.Box{box("ann", 1)}, true},
		{[]impl.Box{}, "zzzz", 999, []impl.Box{box("zzzz", 999)}, true},
		{two, "ann", 7, []impl.Box{box("ann", 7), box("bob", 5, 3), box("cat", 3)}, true},
		{two, "bo", 7, []impl.Box{box("bo", 7), box("bob", 5, 3), box("cat", 3)}, true},
		{two, "bobb", 7, []impl.Box{box("bob", 5, 3), box("bobb", 7), box("cat", 3)}, true},
		{two, "dan", 7, []impl.Box{box("bob", 5, 3), box("cat", 3), box("dan", 7)}, true},
		{two, "bob", 4, []impl.Box{box("bob", 5, 4, 3), box("cat", 3)}, true},
		{two, "bob", 5, two, true},
		{two, "cat", 3, two, true},
		{two, "cat", 1, []impl.Box{box("bob", 5, 3), box("cat", 3, 1)}, true},
		{full, "bob", 70, []impl.Box{box("bob", 70, 60, 50, 40, 30, 20)}, true},
		{full, "bob", 25, []impl.Box{box("bob", 60, 50, 40, 30, 25, 20)}, true},
		{full, "bob", 10, full, true},
		{full, "bob", 9, full, true},
		{full, "cat", 9, []impl.Box{full[0], box("cat", 9)}, true},
		{nine, "jim", 5, append(cloneBoxes(nine), box("jim", 5)), true},
		{nine, "a", 5, append([]impl.Box{box("a", 5)}, nine...), true},
		{ten, "jim", 999, append(cloneBoxes(nine), box("jim", 999, 49)), true},
		{ten, "jim", 49, ten, true},
		{ten, "kim", 5, nil, false},
		{ten, "a", 5, nil, false},
		{ten, "catt", 5, nil, false},
		{two, "bob", 0, nil, false},
		{two, "dan", 0, nil, false},
		{two, "bob", 1000, nil, false},
		{two, "dan", 1000, nil, false},
		{two, "", 7, nil, false},
		{two, "Bob", 7, nil, false},
		{boxRow(1, append(slices.Clone(tenNames), "kim")...), "kim", 5, nil, false},
	}
	for _, c := range cases {
		checkBoxesPut(t, c)
	}
}

func TestBoxesPutInvalid(t *testing.T) {
	for _, list := range goodBoxes() {
		for _, name := range badNames {
			checkBoxesPut(t, boxesPutCase{list, name, 5, nil, false})
		}
		for _, name := range boxNames {
			for _, id := range badIds {
				checkBoxesPut(t, boxesPutCase{list, name, id, nil, false})
			}
		}
	}
	for _, list := range badBoxes() {
		names := append(slices.Clone(boxNames), "kk", "", "Ann")
		for _, b := range list {
			names = append(names, b.Name)
		}
		for _, name := range names {
			for _, id := range []int{1, 4, 5, 7, 999, 0, 1000} {
				checkBoxesPut(t, boxesPutCase{list, name, id, nil, false})
			}
		}
	}
}

func TestBoxesGetSamples(t *testing.T) {
	for _, list := range goodBoxes() {
		for _, name := range slices.Concat(boxNames, goodNames, badNames) {
			checkBoxesGet(t, list, name, idsOfBox(list, name))
		}
	}
}

func TestBoxesGetCases(t *testing.T) {
	list := []impl.Box{box("an", 1), box("ann", 5, 3), box("anna", 999, 998, 997, 996, 995, 994), box("bob", 4)}
	checkBoxesGet(t, list, "an", []int{1})
	checkBoxesGet(t, list, "ann", []int{5, 3})
	checkBoxesGet(t, list, "anna", []int{999, 998, 997, 996, 995, 994})
	checkBoxesGet(t, list, "bob", []int{4})
	for _, name := range []string{"", "a", "anne", "b", "bobb", "cat", "zzzz", "Ann", "ann ", "annan"} {
		checkBoxesGet(t, list, name, nil)
	}
	checkBoxesGet(t, nil, "ann", nil)
	checkBoxesGet(t, []impl.Box{}, "", nil)
}

func TestBoxesGetInvalid(t *testing.T) {
	for _, list := range badBoxes() {
		names := slices.Concat(boxNames, badNames)
		for _, b := range list {
			names = append(names, b.Name)
		}
		for _, name := range names {
			checkBoxesGet(t, list, name, nil)
		}
	}
}

func checkBoxPut(t *testing.T, c boxPutCase) {
	t.Helper()
	got, ok := impl.BoxPut(slices.Clone(c.ids), c.id)
	if ok != c.ok || !slices.Equal(got, c.want) {
		t.Errorf("BoxPut(%v, %d) returned %v, %v; want %v, %v", c.ids, c.id, got, ok, c.want, c.ok)
	}
}

func checkBoxesPut(t *testing.T, c boxesPutCase) {
	t.Helper()
	got, ok := impl.BoxesPut(cloneBoxes(c.list), c.name, c.id)
	if ok != c.ok || !sameBoxes(got, c.want) {
		t.Errorf("BoxesPut(%v, %q, %d) returned %v, %v; want %v, %v", c.list, c.name, c.id, got, ok, c.want, c.ok)
	}
}

func checkBoxesGet(t *testing.T, list []impl.Box, name string, want []int) {
	t.Helper()
	if got := impl.BoxesGet(cloneBoxes(list), name); !slices.Equal(got, want) {
		t.Errorf("BoxesGet(%v, %q) returned %v; want %v", list, name, got, want)
	}
}
