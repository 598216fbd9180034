package tests

import (
	"slices"
	"testing"

	"loop.example/fanoutlog/impl"
)

func TestP33PutNumbersDescendAndAreNoOthers(t *testing.T) {
	eachBoxPut(t, func(ids []int, id int, result []int) {
		if len(result) > 6 || !idsDescend(result) {
			t.Errorf("BoxPut(%v, %d) returned %v", ids, id, result)
		}
		for _, n := range result {
			if n != id && !slices.Contains(ids, n) {
				t.Errorf("BoxPut(%v, %d) returned %v, with %d", ids, id, result, n)
			}
		}
	})
}

func TestP34PutNumberIsThereOrTheBoxHasGreaterOnes(t *testing.T) {
	there, gone := 0, 0
	eachBoxPut(t, func(ids []int, id int, result []int) {
		if slices.Contains(result, id) {
			there++
			return
		}
		gone++
		if len(result) != 6 || slices.ContainsFunc(result, func(n int) bool { return n <= id }) {
			t.Errorf("BoxPut(%v, %d) returned %v", ids, id, result)
		}
	})
	if there == 0 || gone == 0 {
		t.Errorf("the number was there %d times, and not there %d times", there, gone)
	}
}

func TestP35BoxPutChangesNothingASecondTime(t *testing.T) {
	eachBoxPut(t, func(ids []int, id int, result []int) {
		checkBoxPut(t, boxPutCase{result, id, result, true})
	})
}

func TestP36BoxPutIsTheSameInTheOtherOrder(t *testing.T) {
	eachBoxPut(t, func(ids []int, id int, result []int) {
		behind, ok := impl.BoxPut(result, 33)
		if !ok {
			t.Errorf("BoxPut(%v, 33) fails", result)
		}
		ahead, ok := impl.BoxPut(slices.Clone(ids), 33)
		if !ok {
			t.Errorf("BoxPut(%v, 33) fails", ids)
		}
		checkBoxPut(t, boxPutCase{ahead, id, behind, true})
	})
}

func TestP37BoxesPutIsBoxPutOfTheBox(t *testing.T) {
	eachBoxesPut(t, func(b boxesPutResult) {
		if !impl.BoxesValid(b.result) {
			t.Errorf("BoxesPut(%v, %q, %d) returned %v", b.list, b.name, b.id, b.result)
		}
		want, ok := impl.BoxPut(impl.BoxesGet(cloneBoxes(b.list), b.name), b.id)
		if !ok {
			t.Errorf("BoxPut of the box %q of %v and %d fails", b.name, b.list, b.id)
		}
		checkBoxesGet(t, b.result, b.name, want)
	})
}

func TestP38BoxesPutLeavesAllOtherBoxes(t *testing.T) {
	eachBoxesPut(t, func(b boxesPutResult) {
		for _, name := range slices.Concat(boxNames, tenNames) {
			if name != b.name {
				checkBoxesGet(t, b.result, name, impl.BoxesGet(cloneBoxes(b.list), name))
			}
		}
		others := func(list []impl.Box) []impl.Box {
			return slices.DeleteFunc(slices.Clone(list), func(x impl.Box) bool { return x.Name == b.name })
		}
		if !sameBoxes(others(b.result), others(b.list)) {
			t.Errorf("BoxesPut(%v, %q, %d) returned %v", b.list, b.name, b.id, b.result)
		}
	})
}

func TestP39BoxesPutChangesNothingASecondTime(t *testing.T) {
	eachBoxesPut(t, func(b boxesPutResult) {
		checkBoxesPut(t, boxesPutCase{b.result, b.name, b.id, b.result, true})
	})
}

func TestP40BoxesPutIsTheSameInTheOtherOrder(t *testing.T) {
	succeeded, failed := 0, 0
	eachBoxesPut(t, func(b boxesPutResult) {
		behind, behindOk := impl.BoxesPut(b.result, "cat", 34)
		ahead, aheadOk := impl.BoxesPut(cloneBoxes(b.list), "cat", 34)
		if aheadOk {
			ahead, aheadOk = impl.BoxesPut(ahead, b.name, b.id)
		}
		if aheadOk != behindOk || !sameBoxes(ahead, behind) {
			t.Errorf("BoxesPut(%v, %q, %d) leads to %v, and to %v behind that of cat and 34", b.list, b.name, b.id, behind, ahead)
		}
		if behindOk {
			succeeded++
		} else {
			failed++
		}
	})
	if succeeded == 0 || failed == 0 {
		t.Errorf("BoxesPut of cat and 34 succeeds %d times, and fails %d times", succeeded, failed)
	}
}

func TestP41GotNumbersAreThoseOfTheBox(t *testing.T) {
	some := 0
	for _, list := range slices.Concat(goodBoxes(), badBoxes()) {
		for _, name := range slices.Concat(boxNames, badNames) {
			ids := impl.BoxesGet(cloneBoxes(list), name)
			if len(ids) == 0 {
				continue
			}
			some++
			at := boxIn(list, name)
			if at < 0 || !slices.Equal(list[at].Ids, ids) {
				t.Errorf("BoxesGet(%v, %q) returned %v", list, name, ids)
			}
			for _, id := range ids {
				checkBoxPut(t, boxPutCase{ids, id, ids, true})
			}
		}
	}
	if some == 0 {
		t.Error("no box has numbers")
	}
}

func TestP42BoxesWithoutOneAndWithOneTwice(t *testing.T) {
	for _, list := range goodBoxes() {
		if !impl.BoxesValid(cloneBoxes(list)) {
			t.Errorf("%v are no boxes", list)
		}
		for at, b := range list {
			if less := slices.Delete(cloneBoxes(list), at, at+1); !impl.BoxesValid(less) {
				t.Errorf("%v are no boxes", less)
			}
			for twiceAt := range len(list) + 1 {
				if twice := slices.Insert(cloneBoxes(list), twiceAt, box(b.Name, b.Ids...)); impl.BoxesValid(twice) {
					t.Errorf("%v are boxes", twice)
				}
			}
		}
	}
}

func TestP43BoxPutOfAnEmptyBoxIsTheNumberAlone(t *testing.T) {
	eachBoxPut(t, func(_ []int, id int, _ []int) {
		checkBoxPut(t, boxPutCase{nil, id, []int{id}, true})
		checkBoxPut(t, boxPutCase{[]int{}, id, []int{id}, true})
	})
}

func TestP44BoxesPutBeginsABoxWithTheNumberAlone(t *testing.T) {
	some := 0
	eachBoxesPut(t, func(b boxesPutResult) {
		if boxIn(b.list, b.name) >= 0 {
			return
		}
		some++
		checkBoxesGet(t, b.result, b.name, []int{b.id})
		if len(b.result) != len(b.list)+1 {
			t.Errorf("BoxesPut(%v, %q, %d) returned %v", b.list, b.name, b.id, b.result)
		}
	})
	if some == 0 {
		t.Error("no box begins")
	}
}

// idsDescend reports whether numbers descend, without the program's help.
func idsDescend(ids []int) bool {
	for i := 1; i < len(ids); i++ {
		if ids[i-1] <= ids[i] {
			return false
		}
	}
	return true
}
