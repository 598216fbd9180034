package tests

import (
	"slices"
	"testing"

	"loop.example/fanoutlog/impl"
)

func TestP11FollowIsKnownFromBothSides(t *testing.T) {
	eachFollow(t, func(f followResult) {
		followers, followed := impl.FollowersOf(f.result, f.name), impl.FollowedBy(f.result, f.who)
		if !impl.AccountsValid(f.result) || !slices.Contains(followers, f.who) || !slices.Contains(followed, f.name) {
			t.Errorf("Follow(%q, %q, %q) returned %q, with %q and %q", f.list, f.who, f.name, f.result, followers, followed)
		}
	})
}

func TestP12FollowLeavesAllOtherAccounts(t *testing.T) {
	eachFollow(t, func(f followResult) { checkOtherAccounts(t, "Follow", f) })
}

func TestP13FollowChangesNothingASecondTime(t *testing.T) {
	eachFollow(t, func(f followResult) {
		checkFollow(t, "Follow", impl.Follow, followCase{f.result, f.who, f.name, f.result, true})
	})
}

func TestP14UnfollowUndoesFollow(t *testing.T) {
	eachFollow(t, func(f followResult) {
		if !slices.Contains(followersIn(f.list, f.name), f.who) {
			checkFollow(t, "Unfollow", impl.Unfollow, followCase{f.result, f.who, f.name, f.list, true})
		}
	})
}

func TestP15FollowIsNamesPut(t *testing.T) {
	eachFollow(t, func(f followResult) { checkNewFollowers(t, "Follow", f, impl.NamesPut) })
}

func TestP16UnfollowedNameIsGone(t *testing.T) {
	eachUnfollow(t, func(f followResult) {
		if !impl.AccountsValid(f.result) || slices.Contains(impl.FollowersOf(f.result, f.name), f.who) {
			t.Errorf("Unfollow(%q, %q, %q) returned %q", f.list, f.who, f.name, f.result)
		}
		checkFollow(t, "Unfollow", impl.Unfollow, followCase{f.result, f.who, f.name, nil, false})
	})
}

func TestP17FollowUndoesUnfollow(t *testing.T) {
	eachUnfollow(t, func(f followResult) {
		checkFollow(t, "Follow", impl.Follow, followCase{f.result, f.who, f.name, f.list, true})
	})
}

func TestP18FollowersAreThoseOfTheAccount(t *testing.T) {
	some := 0
	for _, list := range slices.Concat(goodAccounts(), badAccounts()) {
		for _, name := range slices.Concat(goodNames, badNames) {
			got := impl.FollowersOf(cloneAccounts(list), name)
			if len(got) == 0 {
				continue
			}
			some++
			at := placeOf(list, name)
			if at < 0 || !slices.Equal(got, list[at].Followers) || slices.Contains(got, name) {
				t.Errorf("FollowersOf(%q, %q) returned %q", list, name, got)
			}
		}
	}
	if some == 0 {
		t.Error("nobody has followers")
	}
}

func TestP19FollowedAreExactlyThoseWithTheFollower(t *testing.T) {
	for _, list := range goodAccounts() {
		for _, who := range fewNames {
			got := impl.FollowedBy(cloneAccounts(list), who)
			if want := followedIn(list, who); !slices.Equal(got, want) {
				t.Errorf("FollowedBy(%q, %q) returned %q; want %q", list, who, got, want)
			}
		}
	}
}

func TestP20AccountsThatFollowThemselvesOrAreThereTwice(t *testing.T) {
	for _, list := range goodAccounts() {
		if !impl.AccountsValid(list) {
			t.Errorf("%q are no accounts", list)
		}
		if len(list) == 0 {
			continue
		}
		own := cloneAccounts(list)
		own[0].Followers = []string{own[0].Name}
		if impl.AccountsValid(own) {
			t.Errorf("%q are accounts", own)
		}
		if twice := append(cloneAccounts(list), cloneAccounts(list)[len(list)-1]); impl.AccountsValid(twice) {
			t.Errorf("%q are accounts", twice)
		}
	}
}

func TestP21FollowFailsForItselfAndWithoutAccount(t *testing.T) {
	eachFollow(t, func(f followResult) {
		checkFollow(t, "Follow", impl.Follow, followCase{f.result, f.name, f.name, nil, false})
		for _, name := range []string{"none", f.name + "q", "", "Ann"} {
			checkFollow(t, "Follow", impl.Follow, followCase{f.result, f.who, name, nil, false})
		}
	})
}

func TestP22UnfollowIsNamesDropAndLeavesAllOtherAccounts(t *testing.T) {
	eachUnfollow(t, func(f followResult) {
		checkNewFollowers(t, "Unfollow", f, impl.NamesDrop)
		checkOtherAccounts(t, "Unfollow", f)
	})
}

func TestP23FollowedAreNoMoreThanAccountsWithoutTheName(t *testing.T) {
	for _, list := range goodAccounts() {
		for _, who := range slices.Concat(goodNames, badNames) {
			got := impl.FollowedBy(cloneAccounts(list), who)
			if len(got) > len(list) || slices.Contains(got, who) {
				t.Errorf("FollowedBy(%q, %q) returned %q", list, who, got)
			}
		}
	}
}

// checkOtherAccounts checks that a call changed no account but the one with the name.
func checkOtherAccounts(t *testing.T, what string, f followResult) {
	t.Helper()
	if len(f.result) != len(f.list) {
		t.Errorf("%s(%q, %q, %q) returned %d accounts", what, f.list, f.who, f.name, len(f.result))
		return
	}
	for i, a := range f.result {
		if a.Name != f.list[i].Name || a.Name != f.name && !sameAccount(a, f.list[i]) {
			t.Errorf("%s(%q, %q, %q) changed %q to %q", what, f.list, f.who, f.name, f.list[i], a)
		}
	}
}

// checkNewFollowers checks that a call did NamesPut or NamesDrop with the followers of the name.
func checkNewFollowers(t *testing.T, what string, f followResult, change namesCall) {
	t.Helper()
	got := impl.FollowersOf(f.result, f.name)
	want, ok := change(slices.Clone(followersIn(f.list, f.name)), f.who)
	if !ok || !slices.Equal(got, want) {
		t.Errorf("%s(%q, %q, %q) leads to %q; want %q, %v", what, f.list, f.who, f.name, got, want, ok)
	}
}
