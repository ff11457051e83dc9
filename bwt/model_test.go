package bwt_test

import (
	"cmp"
	"math"
	"slices"
	"strings"

	"kist/api"
)

// The model: rotations spelled out and sorted whole, and a way back that sorts places.

func spelled(s string, i int) string { return s[i:] + s[:i] }

// modelRows are the rotations of s in their order.
func modelRows(s string) []string {
	var rows []string
	for i := range len(s) {
		rows = append(rows, spelled(s, i))
	}
	slices.Sort(rows)
	return rows
}

// modelForward takes the first row that is s: rotation 0 stands ahead of those that are the same text.
func modelForward(s string) (string, int) {
	rows := modelRows(s)
	var last []byte
	for _, r := range rows {
		last = append(last, r[len(r)-1])
	}
	return string(last), slices.Index(rows, s)
}

func modelPlaces(last string) []int {
	var p []int
	for i := range len(last) {
		p = append(p, i)
	}
	slices.SortFunc(p, func(i, j int) int { return cmp.Or(cmp.Compare(last[i], last[j]), cmp.Compare(i, j)) })
	return p
}

func modelBack(last string, row int) (string, api.Errno) {
	if row < 0 || row >= len(last) {
		return "", api.ErrOrigin
	}
	p := modelPlaces(last)
	var out []byte
	for at := p[row]; len(out) < len(last); at = p[at] {
		out = append(out, last[at])
	}
	return string(out), api.OK
}

// allTexts are those of at most n bytes that stand in letters.
func allTexts(letters string, n int) []string {
	l := []string{""}
	for from := 0; n > 0; n-- {
		to := len(l)
		for _, s := range l[from:to] {
			for i := range len(letters) {
				l = append(l, s+letters[i:i+1])
			}
		}
		from = to
	}
	return l
}

// chain is a plain rule for numbers that look mixed, the same at each run.
type chain uint64

func (c *chain) next() int {
	*c = *c*6364136223846793005 + 1442695040888963407
	return int(*c >> 33)
}

// text is one of n bytes out of letters.
func (c *chain) text(n int, letters string) string {
	var out []byte
	for range n {
		out = append(out, letters[c.next()%len(letters)])
	}
	return string(out)
}

// bytes are all of them, rising.
func bytes() string {
	var out []byte
	for v := range 256 {
		out = append(out, byte(v))
	}
	return string(out)
}

// sortedBytes are those of s in their order.
func sortedBytes(s string) string {
	b := []byte(s)
	slices.Sort(b)
	return string(b)
}

// texts are those that each call is held against the model with.
func texts() []string {
	l := []string{"banana", "abab", "aba", "aaa", "kist", "mississippi", "\x7f\x80", "\x80\x7f\x00\xff", "\xff\xff\x00\xff\xff\x01", "\xe2\x82\xac\xe2\x82", bytes(), bytes() + bytes(), strings.Repeat("\xff", 300), strings.Repeat("\x00", 257), strings.Repeat("ab", 150) + "a"}
	c := chain(51)
	for _, letters := range []string{"ab", "abc", "\x00\xff", "\x7f\x80", bytes()} {
		for n := 1; n < 60; n += 7 {
			one := c.text(n, letters)
			l = append(l, one, one+one, one+one+one, one+one+"a", strings.Repeat(one, 12))
		}
	}
	return l
}

// long are texts of n bytes, whose rotations are alike for long, or not.
func long(n int) map[string]string {
	c := chain(52)
	half := c.text(n/2, "ab")
	return map[string]string{
		"one byte":     strings.Repeat("a", n),
		"two bytes":    strings.Repeat("ab", n/2+1)[:n],
		"last greater": strings.Repeat("a", n-1) + "b",
		"last less":    strings.Repeat("b", n-1) + "a",
		"a half twice": (half + half + "c")[:n],
		"mixed":        c.text(n, bytes()),
	}
}

// wrongRows are those that stand in no last column of n bytes.
func wrongRows(n int) []int {
	return []int{-1, -2, -n, -n - 1, n, n + 1, 2*n + 1, math.MinInt, math.MinInt + 1, math.MaxInt, math.MaxInt - n, math.MinInt32, math.MaxInt32, 1 << 32, 1 << 62}
}
