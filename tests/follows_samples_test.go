package tests

import (
	"slices"
	"testing"

	"loop.example/fanoutlog/impl"
)

// fewNames are names with and without accounts in goodAccounts, ahead of, between and behind others.
var fewNames = []string{"a", "ann", "b", "bob", "cat", "dan", "eve", "fay", "jim", "kim", "zzzz"}

// account returns an account with followers of its own.
func account(name string, followers ...string) impl.Account {
	return impl.Account{Name: name, Followers: slices.Clone(followers)}
}

// goodAccounts returns lists of 0 to AccountsMax accounts with 0 to NamesMax followers, with and without accounts.
func goodAccounts() [][]impl.Account {
	lists := [][]impl.Account{
		nil,
		{},
		{{Name: "ann", Followers: []string{}}},
		{account("a", "aa", "b"), account("aa", "a"), account("aaa"), account("b", "aaa", "bob", "z"), account("ba", "zzzz")},
		{account("zzzz", tenNames...)},
		{account("a", tenNames...), account("kim", tenNames...), account("zed", tenNames[:9]...)},
		{account("ann", tenNames[1:]...), account("jim", tenNames[:9]...)},
	}
	for n := range 7 {
		var alone, followed []impl.Account
		for _, name := range tenNames[:n] {
			alone = append(alone, account(name))
			followed = append(followed, account(name, others(tenNames, name)...))
		}
		lists = append(lists, alone, followed)
	}
	return append(lists, threeAccounts()...)
}

// threeAccounts returns all lists of three accounts that may follow each other and that a name without account may follow.
func threeAccounts() [][]impl.Account {
	var lists [][]impl.Account
	for set := range 1 << 9 {
		var list []impl.Account
		for i, name := range []string{"ann", "bob", "cat"} {
			list = append(list, account(name))
			for j, who := range others([]string{"ann", "bob", "cat", "dan"}, name) {
				if set>>(3*i+j)&1 == 1 {
					list[i].Followers = append(list[i].Followers, who)
				}
			}
		}
		lists = append(lists, list)
	}
	return lists
}

// badAccounts returns lists that are no accounts: for a name, for followers, for their order, or for their number.
func badAccounts() [][]impl.Account {
	var bad []impl.Account
	for _, name := range badNames {
		bad = append(bad, account(name), account(name, "ann"))
	}
	for _, followers := range badLists {
		bad = append(bad, account("kk", followers...))
	}
	for _, followers := range [][]string{{"kk"}, {"ann", "kk"}, {"kk", "zed"}, {"ann", "kk", "zed"}} {
		bad = append(bad, account("kk", followers...))
	}
	lists := [][]impl.Account{
		{account("bob"), account("ann")},
		{account("ab"), account("a")},
		{account("ann", "cat"), account("cat"), account("bob", "ann")},
		{account("bob"), account("ann", "bob"), account("cat")},
		{account("ann"), account("ann")},
		{account("ann", "bob"), account("ann", "cat")},
		{account("ann"), account("bob"), account("ann")},
		{account("ann"), account("bob", "ann"), account("bob", "cat"), account("cat")},
	}
	for _, a := range bad {
		lists = append(lists, []impl.Account{a}, []impl.Account{account("a", "bob"), a}, []impl.Account{a, account("zzzz", "bob")})
	}
	var seven []impl.Account
	for _, name := range tenNames[:7] {
		seven = append(seven, account(name, "zed"))
	}
	return append(lists, seven, append(cloneAccounts(seven), account("zed")), append([]impl.Account{account("a")}, seven[:6]...))
}

func cloneAccounts(list []impl.Account) []impl.Account {
	result := slices.Clone(list)
	for i := range result {
		result[i].Followers = slices.Clone(result[i].Followers)
	}
	return result
}

func sameAccount(a, b impl.Account) bool {
	return a.Name == b.Name && slices.Equal(a.Followers, b.Followers)
}

func sameAccounts(a, b []impl.Account) bool {
	return slices.EqualFunc(a, b, sameAccount)
}

// placeOf returns where the account with a name is, or -1, without the program's help.
func placeOf(list []impl.Account, name string) int {
	return slices.IndexFunc(list, func(a impl.Account) bool { return a.Name == name })
}

// followersIn returns the followers of an account, without the program's help.
func followersIn(list []impl.Account, name string) []string {
	if at := placeOf(list, name); at >= 0 {
		return list[at].Followers
	}
	return nil
}

// followedIn returns the accounts that a name follows, without the program's help.
func followedIn(list []impl.Account, who string) []string {
	var names []string
	for _, a := range list {
		if slices.Contains(a.Followers, who) {
			names = append(names, a.Name)
		}
	}
	return names
}

// wantFollow returns what Follow of good samples has to return, without the program's help.
func wantFollow(list []impl.Account, who, name string) ([]impl.Account, bool) {
	if who == name {
		return nil, false
	}
	return wantFollowers(list, who, name, wantPut)
}

// wantUnfollow returns what Unfollow of good samples has to return, without the program's help.
func wantUnfollow(list []impl.Account, who, name string) ([]impl.Account, bool) {
	return wantFollowers(list, who, name, wantDrop)
}

func wantFollowers(list []impl.Account, who, name string, want namesCall) ([]impl.Account, bool) {
	at := placeOf(list, name)
	if at < 0 {
		return nil, false
	}
	followers, ok := want(list[at].Followers, who)
	if !ok {
		return nil, false
	}
	result := cloneAccounts(list)
	result[at].Followers = followers
	return result, true
}

// followCall is Follow or Unfollow.
type followCall func(list []impl.Account, who, name string) ([]impl.Account, bool)

// followCase is what a call is given, and what it has to return.
type followCase struct {
	list []impl.Account
	who  string
	name string
	want []impl.Account
	ok   bool
}

// followResult is what a call was given, and the accounts that it returned.
type followResult struct {
	list   []impl.Account
	who    string
	name   string
	result []impl.Account
}

// eachFollow calls check with each Follow of good samples that succeeds.
func eachFollow(t *testing.T, check func(f followResult)) {
	t.Helper()
	eachFollowSample(t, "Follow", impl.Follow, check)
}

// eachUnfollow calls check with each Unfollow of good samples that succeeds.
func eachUnfollow(t *testing.T, check func(f followResult)) {
	t.Helper()
	eachFollowSample(t, "Unfollow", impl.Unfollow, check)
}

func eachFollowSample(t *testing.T, what string, call followCall, check func(f followResult)) {
	t.Helper()
	succeeded := 0
	for _, list := range goodAccounts() {
		for _, who := range fewNames {
			for _, name := range fewNames {
				if result, ok := call(cloneAccounts(list), who, name); ok {
					succeeded++
					check(followResult{list, who, name, result})
				}
			}
		}
	}
	if succeeded == 0 {
		t.Fatalf("%s never succeeds", what)
	}
}
