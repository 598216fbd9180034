package impl

import "slices"

// NamesMax is the largest number of names of a list.
const NamesMax = 10

// nameLettersMax is the largest number of letters of a name.
const nameLettersMax = 4

// nameText is a string that may be a name.
type nameText string

func (n nameText) valid() bool {
	if len(n) < 1 || len(n) > nameLettersMax {
		return false
	}
	for i := range len(n) {
		if n[i] < 'a' || n[i] > 'z' {
			return false
		}
	}
	return true
}

// nameList is a list of strings that may be names.
type nameList []string

func (list nameList) valid() bool {
	if len(list) > NamesMax {
		return false
	}
	for i, s := range list {
		if !nameText(s).valid() || i > 0 && list[i-1] >= s {
			return false
		}
	}
	return true
}

// place returns where a name is, or where it has to be put, and whether it is there.
// The list has to be valid: only what ascends can be searched by halves.
func (list nameList) place(name string) (int, bool) {
	return slices.BinarySearch(list, name)
}

// with returns a new list with a name at its place, once.
func (list nameList) with(name string) nameList {
	at, there := list.place(name)
	result := make(nameList, 0, len(list)+1)
	result = append(result, list[:at]...)
	if !there {
		result = append(result, name)
	}
	return append(result, list[at:]...)
}

// without returns a new list without the name at a place.
func (list nameList) without(at int) nameList {
	result := make(nameList, 0, len(list)-1)
	result = append(result, list[:at]...)
	return append(result, list[at+1:]...)
}

// NameValid reports whether a name has 1 to 4 small letters.
func NameValid(s string) bool {
	return nameText(s).valid()
}

// NamesValid reports whether names are valid, in ascending order.
func NamesValid(list []string) bool {
	return nameList(list).valid()
}

// NamesPut puts a name at its place.
func NamesPut(list []string, name string) ([]string, bool) {
	if !NamesValid(list) || !NameValid(name) {
		return nil, false
	}
	result := nameList(list).with(name)
	if !result.valid() {
		return nil, false
	}
	return result, true
}

// NamesDrop takes a name away.
func NamesDrop(list []string, name string) ([]string, bool) {
	if !NamesValid(list) {
		return nil, false
	}
	at, there := nameList(list).place(name)
	if !there {
		return nil, false
	}
	return nameList(list).without(at), true
}
