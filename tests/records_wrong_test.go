package tests

import (
	"math/big"
	"slices"
	"strconv"
	"strings"
)

// wrongLines returns what is no line, although most have the check of what is ahead of it.
func wrongLines() []string {
	var lines []string
	for _, text := range wrongTexts() {
		lines = append(lines, text, withCheck(text))
	}
	return append(lines, wrongCheckLines()...)
}

// wrongTexts returns what is ahead of the check in no line.
func wrongTexts() []string {
	texts := []string{
		"", " ", "   ", "1", "post", "1 post", "1 post 7", "1 moved", "1 moved 3", "1 follow bob", "1 unfollow bob", "post 7 bob", "moved 3 2", "follow bob ann",
		"1 post bob 7", "post 1 7 bob", "1 moved 3 bob", "1 moved bob 3", "1 post 7 3", "1 post bob ann", "1 follow 3 2", "1 follow 3 ann", "1 follow bob 2", "1 unfollow 3 2",
		"1 follow bob bob", "1 unfollow bob bob", "1 follow a a", "1 unfollow zzzz zzzz", "1 moved 3 11", "1 moved 3 0", "1 moved 0 2", "1 moved 1000 2", "1 post 0 bob", "1 post 1000 bob",
		"1 POST 7 bob", "1,post,7,bob", "1\tpost\t7\tbob", "1 post 7 bob\n1 moved 3 2",
	}
	for _, text := range []string{"1 post 7 bob", "30 post 999 zzzz", "12 moved 500 9", "10 moved 1 10", "2 follow bob ann", "30 unfollow a zzzz"} {
		texts = append(texts, wrongBlanks(text)...)
		texts = append(texts, wrongWords(text)...)
	}
	return texts
}

// wrongBlanks returns a text with blanks where none may be, without some that have to be, and with others instead.
func wrongBlanks(text string) []string {
	texts := []string{" " + text, text + " ", "  " + text, text + "  ", " " + text + " ", "\n" + text, text + "\n", text + "\t", text + "\r", "\t" + text, text + "\x00", text + "\u00a0"}
	for i := range len(text) + 1 {
		for _, white := range []string{" ", "\n", "\t", "\x00"} {
			texts = append(texts, text[:i]+white+text[i:])
		}
		if i < len(text) && text[i] == ' ' {
			for _, other := range []string{"", "\n", "\t", "\r", "\x00", "-", "_", "\u00a0"} {
				texts = append(texts, text[:i]+other+text[i+1:])
			}
		}
	}
	return texts
}

// wrongWords returns a text with a word less, or more, or with one that is wrong.
func wrongWords(text string) []string {
	var texts []string
	words := strings.Split(text, " ")
	for at, word := range words {
		texts = append(texts, strings.Join(slices.Delete(slices.Clone(words), at, at+1), " "))
		for _, more := range []string{word, "", "1", "bob", "post", "x"} {
			texts = append(texts, strings.Join(slices.Insert(slices.Clone(words), at, more), " "), text+" "+more)
		}
		for _, wrong := range wrongOnes(at, word) {
			others := slices.Clone(words)
			others[at] = wrong
			texts = append(texts, strings.Join(others, " "))
		}
	}
	return texts
}

// wrongOnes returns words that may not stand instead of that at a place of a line: a place, a kind, a number or a name.
func wrongOnes(at int, word string) []string {
	if at == 1 {
		return []string{
			"", "p", "pos", "posts", "Post", "POST", "ppost", "post.", "move", "moves", "Moved", "MOVED", "movedd", "moved\n",
			"Follow", "follows", "followed", "nfollow", "Unfollow", "unfollows", "un", "unpost", "unmoved",
			"0", "1", "2", "3", "4", "ok", "what", "\xff", word + "s", word + "\x00", "un" + word + "s",
		}
	}
	if number, err := strconv.Atoi(word); err == nil {
		wrong := wrongNumbers(number)
		if at == 0 {
			return append(wrong, "31", "32", "99", "100", "301")
		}
		return append(wrong, "1000", "1001", "9999")
	}
	return badNames
}

// wrongNumbers returns what is not the way in which a number is written, and what is too great or too little for any number of a line.
func wrongNumbers(number int) []string {
	s := strconv.Itoa(number)
	wrong := []string{
		"", "0", "00", "-1", "-" + s, "+" + s, "--" + s, "0" + s, "00" + s, "000" + s, "+0" + s, "-0" + s,
		"0x" + s, "0b1", "0o7", s + ".", s + ".0", s + "e0", s + "_0", "1_0", "_" + s, "'" + s, s + "\n", s + "\x00", s + "h",
		"a", "x", "bob", "٣", "３", "²", "2147483648", "4294967297", "9223372036854775807", "9223372036854775808",
		"18446744073709551615", "18446744073709551616", "-9223372036854775808", "-9223372036854775809",
		strings.Repeat("9", 40), strings.Repeat("9", 10000), strings.Repeat("0", 40) + s,
	}
	return append(wrong, wrappedNumbers(number)...)
}

// wrappedNumbers returns numbers that are the same as another one if too few bits of them are kept.
func wrappedNumbers(number int) []string {
	var wrapped []string
	for _, bits := range []uint{16, 32, 63, 64, 65, 128} {
		power := new(big.Int).Lsh(big.NewInt(1), bits)
		same := big.NewInt(int64(number))
		wrapped = append(wrapped, new(big.Int).Add(same, power).String(), new(big.Int).Sub(same, power).String())
	}
	return wrapped
}

// wrongCheckLines returns lines of which only the check is wrong.
func wrongCheckLines() []string {
	var lines []string
	for _, k := range knownLines {
		text := wantText(k.place, k.r)
		for _, wrong := range wrongChecks(wantCheck(text)) {
			lines = append(lines, text+" "+wrong)
		}
		lines = append(lines, text, text+strconv.Itoa(wantCheck(text)), text+"\n"+strconv.Itoa(wantCheck(text)))
	}
	return lines
}

// wrongChecks returns what may not stand instead of a check.
func wrongChecks(check int) []string {
	s := strconv.Itoa(check)
	wrong := []string{
		"", "0" + s, "00" + s, "000" + s, "+" + s, "-" + s, "+0" + s, s + "0", s + "1", "1" + s, s + s, s[:len(s)-1],
		" " + s, s + " ", s + "  ", s + "\n", "\n" + s, "\t" + s, s + "\t", s + "\r", s + "\x00", s + " 1", s + " " + s,
		s + ".0", s + ".", "0x" + s, s + "_", s + "a", "00", "-0", "+0", "-1", "check", "xxx", "\xff",
		strings.Repeat("9", 40), strings.Repeat("0", 10000) + s,
	}
	for _, other := range []int{check + 1, check - 1, check + 10, check - 10, check + 997, check + 2*997, check + 997000, check - 997, 997, 998, 999, 1000, 1994, 9999} {
		wrong = append(wrong, strconv.Itoa(other))
	}
	return append(wrong, wrappedNumbers(check)...)
}
