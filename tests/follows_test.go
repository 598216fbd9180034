package tests

import (
	"slices"
	"strings"
	"testing"

	"loop.example/fanoutlog/impl"
)

func TestAccountsMax(t *testing.T) {
	if impl.AccountsMax != 6 {
		t.Errorf("AccountsMax is %d", impl.AccountsMax)
	}
}

func TestAccountsValidSamples(t *testing.T) {
	for _, list := range goodAccounts() {
		if !impl.AccountsValid(cloneAccounts(list)) {
			t.Errorf("AccountsValid(%q) does not hold", list)
		}
	}
	for _, list := range badAccounts() {
		if impl.AccountsValid(cloneAccounts(list)) {
			t.Errorf("AccountsValid(%q) holds", list)
		}
	}
}

// Names of accounts ascend byte by byte, whoever follows them.
func TestAccountsValidOrder(t *testing.T) {
	for _, a := range goodNames {
		for _, b := range goodNames {
			list := []impl.Account{account(a, "yy"), account(b, "x", "yy")}
			if want := a < b; impl.AccountsValid(list) != want {
				t.Errorf("AccountsValid(%q) is not %v", list, want)
			}
		}
	}
}

func TestAccountsValidCounts(t *testing.T) {
	for n := range 11 {
		var list []impl.Account
		for _, name := range tenNames[:n] {
			list = append(list, account(name))
		}
		if want := n <= 6; impl.AccountsValid(list) != want {
			t.Errorf("AccountsValid of %d accounts is not %v", n, want)
		}
	}
}

// An account that follows itself is invalid at any place, wherever its name stands among the followers.
func TestAccountsValidOwnName(t *testing.T) {
	for at, name := range tenNames[:6] {
		for _, followers := range [][]string{{name}, tenNames[:at+1], tenNames[at:], tenNames} {
			list := []impl.Account{account("ann"), account("bob"), account("cat"), account("dan"), account("eve"), account("fay")}
			list[at].Followers = slices.Clone(followers)
			if impl.AccountsValid(list) {
				t.Errorf("AccountsValid(%q) holds", list)
			}
		}
	}
}

func TestFollowersOfSamples(t *testing.T) {
	for _, list := range goodAccounts() {
		for _, name := range slices.Concat(goodNames, badNames) {
			want := followersIn(list, name)
			if got := impl.FollowersOf(cloneAccounts(list), name); !slices.Equal(got, want) {
				t.Errorf("FollowersOf(%q, %q) returned %q; want %q", list, name, got, want)
			}
		}
	}
}

func TestFollowedBySamples(t *testing.T) {
	for _, list := range goodAccounts() {
		for _, who := range slices.Concat(goodNames, badNames) {
			want := followedIn(list, who)
			if got := impl.FollowedBy(cloneAccounts(list), who); !slices.Equal(got, want) {
				t.Errorf("FollowedBy(%q, %q) returned %q; want %q", list, who, got, want)
			}
		}
	}
}

func TestFollowersOfAndFollowedByInvalid(t *testing.T) {
	for _, list := range badAccounts() {
		names := slices.Concat(goodNames, badNames)
		for _, a := range list {
			names = append(append(names, a.Name), a.Followers...)
		}
		for _, name := range names {
			if got := impl.FollowersOf(cloneAccounts(list), name); len(got) != 0 {
				t.Errorf("FollowersOf(%q, %q) returned %q", list, name, got)
			}
			if got := impl.FollowedBy(cloneAccounts(list), name); len(got) != 0 {
				t.Errorf("FollowedBy(%q, %q) returned %q", list, name, got)
			}
		}
	}
}

func TestFollowersOfAndFollowedByCases(t *testing.T) {
	list := []impl.Account{account("ann", "bob", "cat"), account("bob", "zed"), account("dan"), account("eve", "ann", "cat")}
	cases := []struct {
		name, followers, followed string
	}{
		{"ann", "bob cat", "eve"},
		{"bob", "zed", "ann"},
		{"cat", "", "ann eve"},
		{"dan", "", ""},
		{"eve", "ann cat", ""},
		{"zed", "", "bob"},
		{"fay", "", ""},
		{"", "", ""},
		{"abcde", "", ""},
	}
	for _, c := range cases {
		followers, followed := impl.FollowersOf(cloneAccounts(list), c.name), impl.FollowedBy(cloneAccounts(list), c.name)
		if !slices.Equal(followers, strings.Fields(c.followers)) || !slices.Equal(followed, strings.Fields(c.followed)) {
			t.Errorf("%q is followed by %q and follows %q", c.name, followers, followed)
		}
	}
}

func TestFollowSamples(t *testing.T) {
	checkFollowSamples(t, "Follow", impl.Follow, wantFollow)
}

func TestUnfollowSamples(t *testing.T) {
	checkFollowSamples(t, "Unfollow", impl.Unfollow, wantUnfollow)
}

func checkFollowSamples(t *testing.T, what string, call, want followCall) {
	t.Helper()
	for _, list := range goodAccounts() {
		for _, who := range fewNames {
			for _, name := range fewNames {
				accounts, ok := want(list, who, name)
				checkFollow(t, what, call, followCase{list, who, name, accounts, ok})
			}
		}
	}
}

func TestFollowCases(t *testing.T) {
	two := []impl.Account{account("bob", "cat", "eve"), account("dan")}
	nine := []impl.Account{account("zed", tenNames[:9]...)}
	ten := []impl.Account{account("kim"), account("zed", tenNames...)}
	cases := []followCase{
		{two, "ann", "bob", []impl.Account{account("bob", "ann", "cat", "eve"), account("dan")}, true},
		{two, "dan", "bob", []impl.Account{account("bob", "cat", "dan", "eve"), account("dan")}, true},
		{two, "zzzz", "bob", []impl.Account{account("bob", "cat", "eve", "zzzz"), account("dan")}, true},
		{two, "bob", "dan", []impl.Account{account("bob", "cat", "eve"), account("dan", "bob")}, true},
		{two, "cat", "bob", two, true},
		{two, "eve", "bob", two, true},
		{two, "bob", "bob", nil, false},
		{two, "dan", "dan", nil, false},
		{two, "eve", "eve", nil, false},
		{two, "bob", "cat", nil, false},
		{two, "bob", "ann", nil, false},
		{two, "bob", "zed", nil, false},
		{nil, "bob", "ann", nil, false},
		{[]impl.Account{}, "bob", "ann", nil, false},
		{nil, "ann", "ann", nil, false},
		{nine, "jim", "zed", []impl.Account{account("zed", tenNames...)}, true},
		{ten, "ann", "zed", ten, true},
		{ten, "jim", "zed", ten, true},
		{ten, "kim", "zed", nil, false},
		{ten, "a", "zed", nil, false},
		{ten, "zed", "kim", []impl.Account{account("kim", "zed"), account("zed", tenNames...)}, true},
	}
	for _, c := range cases {
		checkFollow(t, "Follow", impl.Follow, c)
	}
}

func TestUnfollowCases(t *testing.T) {
	two := []impl.Account{account("bob", "cat", "eve"), account("dan", "bob", "cat")}
	ten := []impl.Account{account("kim"), account("zed", tenNames...)}
	cases := []followCase{
		{two, "cat", "bob", []impl.Account{account("bob", "eve"), account("dan", "bob", "cat")}, true},
		{two, "eve", "bob", []impl.Account{account("bob", "cat"), account("dan", "bob", "cat")}, true},
		{two, "bob", "dan", []impl.Account{account("bob", "cat", "eve"), account("dan", "cat")}, true},
		{two, "cat", "dan", []impl.Account{account("bob", "cat", "eve"), account("dan", "bob")}, true},
		{two, "eve", "dan", nil, false},
		{two, "ann", "bob", nil, false},
		{two, "dan", "bob", nil, false},
		{two, "zed", "bob", nil, false},
		{two, "bob", "bob", nil, false},
		{two, "dan", "dan", nil, false},
		{two, "bob", "cat", nil, false},
		{two, "cat", "zed", nil, false},
		{nil, "bob", "ann", nil, false},
		{[]impl.Account{}, "bob", "ann", nil, false},
		{[]impl.Account{account("ann", "bob")}, "bob", "ann", []impl.Account{account("ann")}, true},
		{ten, "ann", "zed", []impl.Account{account("kim"), account("zed", tenNames[1:]...)}, true},
		{ten, "jim", "zed", []impl.Account{account("kim"), account("zed", tenNames[:9]...)}, true},
		{ten, "kim", "zed", nil, false},
	}
	for _, c := range cases {
		checkFollow(t, "Unfollow", impl.Unfollow, c)
	}
}

func TestFollowInvalid(t *testing.T) {
	checkFollowInvalid(t, "Follow", impl.Follow)
}

func TestUnfollowInvalid(t *testing.T) {
	checkFollowInvalid(t, "Unfollow", impl.Unfollow)
}

// checkFollowInvalid checks that a call fails if any argument is invalid.
func checkFollowInvalid(t *testing.T, what string, call followCall) {
	t.Helper()
	list := []impl.Account{account("ann", "bob", "cat"), account("bob"), account("kim", tenNames...)}
	for _, bad := range badNames {
		for _, name := range fewNames {
			checkFollow(t, what, call, followCase{list, bad, name, nil, false})
			checkFollow(t, what, call, followCase{list, name, bad, nil, false})
		}
		checkFollow(t, what, call, followCase{list, bad, bad, nil, false})
		checkFollow(t, what, call, followCase{nil, "ann", bad, nil, false})
	}
	for _, list := range badAccounts() {
		names := slices.Concat(fewNames, []string{"kk", "zed"})
		for _, a := range list {
			names = append(append(names, a.Name), a.Followers...)
		}
		for _, who := range names {
			for _, a := range append(list, account("ann")) {
				checkFollow(t, what, call, followCase{list, who, a.Name, nil, false})
			}
		}
	}
}

func checkFollow(t *testing.T, what string, call followCall, c followCase) {
	t.Helper()
	if got, ok := call(cloneAccounts(c.list), c.who, c.name); ok != c.ok || !sameAccounts(got, c.want) {
		t.Errorf("%s(%q, %q, %q) returned %q, %v; want %q, %v", what, c.list, c.who, c.name, got, ok, c.want, c.ok)
	}
}
