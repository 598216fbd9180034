package tests

import (
	"slices"
	"testing"

	"loop.example/fanoutlog/impl"
)

func TestFollowMemory(t *testing.T) {
	checkFollowMemory(t, "Follow", impl.Follow)
}

func TestUnfollowMemory(t *testing.T) {
	checkFollowMemory(t, "Unfollow", impl.Unfollow)
}

func TestFollowersOfMemory(t *testing.T) {
	checkFollowNamesMemory(t, "FollowersOf", impl.FollowersOf)
}

func TestFollowedByMemory(t *testing.T) {
	checkFollowNamesMemory(t, "FollowedBy", impl.FollowedBy)
}

func TestAccountsValidMemory(t *testing.T) {
	for _, list := range memoryAccounts() {
		whole, list := roomyAccounts(list)
		before := wholeAccounts(whole)
		impl.AccountsValid(list)
		if !sameAccounts(wholeAccounts(whole), before) {
			t.Errorf("AccountsValid changed its argument to %q", whole)
		}
	}
}

// Accounts of an argument may share memory with each other; those of a result may not.
func TestFollowResultOfSharedFollowers(t *testing.T) {
	names := slices.Clone(tenNames)
	list := []impl.Account{
		{Name: "x", Followers: names[:3]},
		{Name: "y", Followers: names[:3]},
		{Name: "z", Followers: names[3:6]},
	}
	want := []impl.Account{account("x", "ann", "bob", "cat"), account("y", "ann", "bob", "cat", "zed"), account("z", tenNames[3:6]...)}
	checkFollowParts(t, impl.Follow, list, "zed", "y", want)
	want[1] = account("y", "ann", "cat")
	checkFollowParts(t, impl.Unfollow, list, "bob", "y", want)
	if !slices.Equal(names, tenNames) {
		t.Errorf("the argument has become %q", names)
	}
}

// checkFollowParts checks that no account of a result changes through another one.
func checkFollowParts(t *testing.T, call followCall, list []impl.Account, who, name string, want []impl.Account) {
	t.Helper()
	for at := range list {
		result, ok := call(list, who, name)
		if !ok || !sameAccounts(result, want) {
			t.Fatalf("%q became %q, %v; want %q", list, result, ok, want)
		}
		overwrite(result[at].Followers)
		for i, a := range result {
			if i != at && !sameAccount(a, want[i]) {
				t.Errorf("%q changes with the account %q", a, result[at].Name)
			}
		}
	}
}

func TestFollowsNilAndEmpty(t *testing.T) {
	for _, list := range slices.Concat(goodAccounts(), badAccounts()) {
		nils, empties := withEmpty(list, nil), withEmpty(list, []string{})
		if impl.AccountsValid(nils) != impl.AccountsValid(empties) {
			t.Errorf("AccountsValid(%q) differs for nil", list)
		}
		for _, name := range fewNames {
			if !slices.Equal(impl.FollowersOf(nils, name), impl.FollowersOf(empties, name)) {
				t.Errorf("FollowersOf(%q, %q) differs for nil", list, name)
			}
			if !slices.Equal(impl.FollowedBy(nils, name), impl.FollowedBy(empties, name)) {
				t.Errorf("FollowedBy(%q, %q) differs for nil", list, name)
			}
			want, ok := impl.Follow(nils, "dan", name)
			checkFollow(t, "Follow", impl.Follow, followCase{empties, "dan", name, want, ok})
			want, ok = impl.Unfollow(nils, "dan", name)
			checkFollow(t, "Unfollow", impl.Unfollow, followCase{empties, "dan", name, want, ok})
		}
	}
}

// withEmpty returns accounts with other followers for those that have none, and nil or an empty slice for no accounts.
func withEmpty(list []impl.Account, none []string) []impl.Account {
	if len(list) == 0 && none == nil {
		return nil
	}
	result := make([]impl.Account, 0, len(list))
	for _, a := range cloneAccounts(list) {
		if len(a.Followers) == 0 {
			a.Followers = none
		}
		result = append(result, a)
	}
	return result
}

// memoryAccounts returns good and bad samples, but not all of those that differ only in who follows whom.
func memoryAccounts() [][]impl.Account {
	lists := badAccounts()
	for i, list := range goodAccounts() {
		if i < 30 || i%7 == 0 {
			lists = append(lists, list)
		}
	}
	return lists
}

// roomyAccounts returns accounts with room behind them and behind their followers, and the same memory with this room,
// so that an append to a part of the argument can be noticed.
func roomyAccounts(list []impl.Account) ([]impl.Account, []impl.Account) {
	whole := make([]impl.Account, 0, len(list)+2)
	for _, a := range append(slices.Clone(list), account("room"), account("room")) {
		_, a.Followers = roomy(a.Followers)
		whole = append(whole, a)
	}
	return whole, whole[:len(list)]
}

// wholeAccounts returns a copy of accounts, with all for which their followers have room.
func wholeAccounts(list []impl.Account) []impl.Account {
	result := slices.Clone(list)
	for i, a := range result {
		result[i].Followers = slices.Clone(a.Followers[:cap(a.Followers)])
	}
	return result
}

// overwriteAccounts changes all accounts for which a slice has room, and all followers for which these have.
func overwriteAccounts(list []impl.Account) {
	list = list[:cap(list)]
	for i := range list {
		overwrite(list[i].Followers)
		list[i] = account("over", "over")
	}
}

// checkFollowMemory checks that Follow or Unfollow leaves its argument as it is, returns the same again,
// and that neither what it was given nor what it returned is changed through another result.
func checkFollowMemory(t *testing.T, what string, call followCall) {
	t.Helper()
	for _, list := range memoryAccounts() {
		for _, who := range fewNames {
			for _, name := range fewNames {
				whole, list := roomyAccounts(list)
				before := wholeAccounts(whole)
				first, firstOk := call(list, who, name)
				want := cloneAccounts(first)
				second, secondOk := call(list, who, name)
				if firstOk != secondOk || !sameAccounts(first, second) || !firstOk && len(first) != 0 {
					t.Errorf("%s(%q, %q, %q) returned %q, and %q then", what, list, who, name, first, second)
				}
				overwriteAccounts(second)
				if !sameAccounts(wholeAccounts(whole), before) || !sameAccounts(first, want) {
					t.Errorf("%s(%q, %q, %q) changed its argument, or shares memory", what, before[:len(list)], who, name)
				}
				overwriteAccounts(whole)
				if !sameAccounts(first, want) {
					t.Errorf("%s(%q, %q, %q): its result changes with its argument", what, before[:len(list)], who, name)
				}
			}
		}
	}
}

// checkFollowNamesMemory checks the same of FollowersOf or FollowedBy.
func checkFollowNamesMemory(t *testing.T, what string, call func(list []impl.Account, name string) []string) {
	t.Helper()
	for _, list := range memoryAccounts() {
		for _, name := range slices.Concat(fewNames, badNames) {
			whole, list := roomyAccounts(list)
			before := wholeAccounts(whole)
			first := call(list, name)
			want := slices.Clone(first)
			second := call(list, name)
			if !slices.Equal(first, second) {
				t.Errorf("%s(%q, %q) returned %q, and %q then", what, list, name, first, second)
			}
			overwrite(second)
			if !sameAccounts(wholeAccounts(whole), before) || !slices.Equal(first, want) {
				t.Errorf("%s(%q, %q) changed its argument, or shares memory", what, before[:len(list)], name)
			}
			overwriteAccounts(whole)
			if !slices.Equal(first, want) {
				t.Errorf("%s(%q, %q): its result changes with its argument", what, before[:len(list)], name)
			}
		}
	}
}
