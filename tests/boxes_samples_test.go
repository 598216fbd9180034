package tests

import (
	"slices"
	"testing"

	"loop.example/fanoutlog/impl"
)

// boxNames are names with and without boxes in goodBoxes, ahead of, between and behind others.
var boxNames = []string{"a", "ann", "anna", "bob", "cat", "dan", "eve", "jim", "kim", "zzzz"}

// putIds are numbers in range that some of goodIds have, ahead of, between and behind those of others.
var putIds = []int{1, 2, 4, 6, 7, 31, 32, 33, 34, 35, 36, 255, 500, 994, 998, 999}

func box(name string, ids ...int) impl.Box {
	return impl.Box{Name: name, Ids: slices.Clone(ids)}
}

// idRow returns so many numbers that descend from one on.
func idRow(from, many int) []int {
	var ids []int
	for i := range many {
		ids = append(ids, from-i)
	}
	return ids
}

// boxRow returns boxes of names, each with so many numbers.
func boxRow(many int, names ...string) []impl.Box {
	var list []impl.Box
	for i, name := range names {
		list = append(list, box(name, idRow(40+i, many)...))
	}
	return list
}

// goodIds returns the numbers of boxes: none, each one alone of some, all that some numbers lead to, and rows up to BoxMax.
func goodIds() [][]int {
	lists := [][]int{nil, {}, {998, 500, 35, 34, 32, 2}, {500, 499, 498, 36, 35, 34}, {32, 31, 30, 3, 2, 1}}
	for _, id := range someIds {
		lists = append(lists, []int{id})
	}
	for set := range 1 << 6 {
		var ids []int
		for i, id := range []int{999, 500, 34, 33, 32, 1} {
			if set>>i&1 == 1 {
				ids = append(ids, id)
			}
		}
		lists = append(lists, ids)
	}
	for many := 1; many <= 6; many++ {
		lists = append(lists, idRow(999, many), idRow(998, many), idRow(many, many), idRow(many+1, many), idRow(36, many))
	}
	return lists
}

// badBoxIds returns numbers that no box has: for a number, for their order, or for how many there are.
func badBoxIds() [][]int {
	lists := [][]int{
		{1, 2}, {5, 6}, {998, 999}, {1, 999}, {3, 1, 2}, {2, 3, 1}, {1, 2, 3}, {3, 2, 9}, {5, 4, 4},
		{5, 5}, {1, 1}, {999, 999}, {5, 5, 3}, {5, 3, 3}, {5, 3, 5}, {6, 5, 4, 3, 2, 2}, {6, 5, 4, 3, 1, 2}, {5, 6, 4, 3, 2, 1},
		{1000, 999}, {1000, 5, 3}, {999, 1000}, {1, 0}, {3, 2, 0}, {0, 1}, {0, 0}, {5, 0, 3}, {5, 1000, 3}, {1000, 999, 998, 997, 996, 995},
		{5, 4, 3, 2, 1, 0}, {2, -1}, {-1, -2}, {3, 2, 1, 0, -1, -2},
	}
	for _, id := range badIds {
		lists = append(lists, []int{id}, []int{id, 5}, []int{5, id}, []int{7, id, 5})
	}
	for many := 7; many < 20; many += 4 {
		lists = append(lists, idRow(999, many), idRow(many, many), slices.Repeat([]int{5}, many))
	}
	return append(lists, idRow(7, 7), idRow(999, 999), append(idRow(7, 6), 2), append(idRow(7, 6), 1))
}

// goodBoxes returns lists of 0 to NamesMax boxes with 1 to BoxMax numbers, with and without those of some names.
func goodBoxes() [][]impl.Box {
	lists := [][]impl.Box{
		nil,
		{},
		{box("a", 1), box("aa", 1), box("aaa", 2, 1), box("aaaa", 999), box("b", 3)},
		{box("ann", 999, 998, 997, 996, 995, 994), box("bob", 6, 5, 4, 3, 2, 1), box("cat", 36, 35, 34, 33, 32, 31)},
		{box("cat", 999, 35, 34, 33, 32, 31), box("dan", 33), box("zzzz", 34)},
		{box("bob", 34, 33), box("cat", 34)},
		{box("ann", 500, 499, 40, 39, 38, 37), box("cat", 500, 499, 40, 39, 38, 37), box("zzzz", 32, 31, 30, 3, 2, 1)},
	}
	for _, ids := range goodIds() {
		if len(ids) > 0 {
			lists = append(lists, []impl.Box{box("cat", ids...)})
		}
	}
	for n := range 11 {
		lists = append(lists, boxRow(1, tenNames[:n]...), boxRow(6, tenNames[:n]...), boxRow(1+n%6, tenNames[n:]...))
	}
	nine := slices.DeleteFunc(slices.Clone(tenNames), func(name string) bool { return name == "cat" })
	lists = append(lists, boxRow(3, nine...), boxRow(6, append(slices.Clone(nine), "zzzz")...))
	return append(lists, fewBoxes()...)
}

// fewBoxes returns all lists in which each of some names has one of some boxes, or none.
func fewBoxes() [][]impl.Box {
	lists := [][]impl.Box{nil}
	for _, name := range []string{"ann", "bob", "cat"} {
		for _, list := range lists {
			for _, ids := range [][]int{{34}, {500, 33, 1}, {999, 500, 35, 33, 32, 2}} {
				lists = append(lists, append(cloneBoxes(list), box(name, ids...)))
			}
		}
	}
	return lists
}

// badBoxes returns lists that are no boxes: for a name, for numbers, for the order of names, or for how many there are.
func badBoxes() [][]impl.Box {
	bad := []impl.Box{{}, {Name: "kk"}, {Name: "kk", Ids: []int{}}, {Ids: []int{5}}}
	for _, name := range badNames {
		bad = append(bad, box(name, 5, 3))
	}
	for _, ids := range badBoxIds() {
		bad = append(bad, box("kk", ids...))
	}
	lists := [][]impl.Box{
		{box("bob", 5), box("ann", 3)},
		{box("ab", 5), box("a", 5)},
		{box("ann", 1), box("cat", 2), box("bob", 3)},
		{box("bob", 1), box("ann", 2), box("cat", 3)},
		{box("cat", 3), box("bob", 2), box("ann", 1)},
		{box("ann", 5), box("ann", 5)},
		{box("ann", 5), box("ann", 3)},
		{box("ann", 5), box("bob", 4), box("bob", 3), box("cat", 2)},
		{box("ann", 5), box("bob", 4), box("cat", 2), box("cat", 2)},
		{box("ann", 5), box("bob", 4), box("ann", 5)},
	}
	for _, b := range bad {
		lists = append(lists, []impl.Box{b}, []impl.Box{box("ann", 5), b}, []impl.Box{b, box("zzzz", 5)})
	}
	return append(lists, badLongBoxes()...)
}

// badLongBoxes returns lists of NamesMax boxes of which the last one alone is bad, and longer lists.
func badLongBoxes() [][]impl.Box {
	nine := boxRow(6, tenNames[:9]...)
	ten := boxRow(2, tenNames...)
	var lists [][]impl.Box
	for _, last := range []impl.Box{box("jim"), box("Jim", 5), box("ida", 5), box("ann", 5), box("jim", 0), box("jim", 1000), box("jim", idRow(7, 7)...)} {
		lists = append(lists, append(cloneBoxes(nine), last))
	}
	for _, more := range [][]string{{"kim"}, {"jim"}, {"kim", "liz"}, {"kim", "liz", "max", "ned", "zed"}} {
		lists = append(lists, append(cloneBoxes(ten), boxRow(1, more...)...))
	}
	return append(lists, append(boxRow(1, "a"), ten...))
}

func cloneBoxes(list []impl.Box) []impl.Box {
	result := slices.Clone(list)
	for i := range result {
		result[i].Ids = slices.Clone(result[i].Ids)
	}
	return result
}

func sameBox(a, b impl.Box) bool {
	return a.Name == b.Name && slices.Equal(a.Ids, b.Ids)
}

func sameBoxes(a, b []impl.Box) bool {
	return slices.EqualFunc(a, b, sameBox)
}

// boxIn returns where the box of a name is, or -1, without the program's help.
func boxIn(list []impl.Box, name string) int {
	return slices.IndexFunc(list, func(b impl.Box) bool { return b.Name == name })
}

// idsOfBox returns the numbers of the box of a name, without the program's help.
func idsOfBox(list []impl.Box, name string) []int {
	if at := boxIn(list, name); at >= 0 {
		return list[at].Ids
	}
	return nil
}

// wantBoxPut returns the numbers that BoxPut of good samples has to return, without the program's help.
func wantBoxPut(ids []int, id int) []int {
	var want []int
	for n := 999; n >= 1; n-- {
		if (n == id || slices.Contains(ids, n)) && len(want) < 6 {
			want = append(want, n)
		}
	}
	return want
}

// wantBoxesPut returns what BoxesPut of good samples has to return, without the program's help.
func wantBoxesPut(list []impl.Box, name string, id int) ([]impl.Box, bool) {
	want := cloneBoxes(list)
	if at := boxIn(want, name); at >= 0 {
		want[at].Ids = wantBoxPut(want[at].Ids, id)
		return want, true
	}
	if len(list) == 10 {
		return nil, false
	}
	ahead := 0
	for _, b := range list {
		if b.Name < name {
			ahead++
		}
	}
	return slices.Insert(want, ahead, box(name, id)), true
}

// boxPutCase is what BoxPut is given, and what it has to return.
type boxPutCase struct {
	ids  []int
	id   int
	want []int
	ok   bool
}

// boxesPutCase is what BoxesPut is given, and what it has to return.
type boxesPutCase struct {
	list []impl.Box
	name string
	id   int
	want []impl.Box
	ok   bool
}

// boxesPutResult is what BoxesPut was given, and the boxes that it returned.
type boxesPutResult struct {
	list   []impl.Box
	name   string
	id     int
	result []impl.Box
}

// eachBoxPut calls check with each BoxPut of good samples that succeeds.
func eachBoxPut(t *testing.T, check func(ids []int, id int, result []int)) {
	t.Helper()
	succeeded := 0
	for _, ids := range goodIds() {
		for _, id := range slices.Concat(putIds, someIds) {
			if result, ok := impl.BoxPut(slices.Clone(ids), id); ok {
				succeeded++
				check(ids, id, result)
			}
		}
	}
	if succeeded == 0 {
		t.Fatal("BoxPut never succeeds")
	}
}

// eachBoxesPut calls check with each BoxesPut of good samples that succeeds.
func eachBoxesPut(t *testing.T, check func(b boxesPutResult)) {
	t.Helper()
	succeeded := 0
	for _, list := range goodBoxes() {
		for _, name := range boxNames {
			for _, id := range putIds {
				if result, ok := impl.BoxesPut(cloneBoxes(list), name, id); ok {
					succeeded++
					check(boxesPutResult{list, name, id, result})
				}
			}
		}
	}
	if succeeded == 0 {
		t.Fatal("BoxesPut never succeeds")
	}
}
