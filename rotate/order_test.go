package rotate_test

import (
	"slices"
	"strings"
	"testing"

	"kist/api"
	"kist/rotate"
)

// P4.2
func TestOrderOfTheExamples(t *testing.T) {
	if l := rotate.Order("banana"); !slices.Equal(l, []int{5, 3, 1, 0, 4, 2}) {
		t.Error(l)
	}
	if l := rotate.Order("abab"); !slices.Equal(l, []int{0, 2, 1, 3}) {
		t.Error(l)
	}
	if l := rotate.Order(""); len(l) != 0 {
		t.Error(l)
	}
	if l := rotate.Order("x"); !slices.Equal(l, []int{0}) {
		t.Error(l)
	}
}

// P4.2: all short texts, and others.
func TestOrderAsTheModel(t *testing.T) {
	for _, s := range slices.Concat(allTexts("ab", 13), allTexts("abc", 8), allTexts("\x00\x7f\x80\xff", 5), texts()) {
		if l := rotate.Order(s); !slices.Equal(l, modelOrder(s)) {
			t.Fatalf("Order(%q) = %v, not %v", s, l, modelOrder(s))
		}
	}
}

// P4.2: of rotations that are one text the lesser number comes first.
func TestOrderOfOneText(t *testing.T) {
	for n := range 100 {
		l := rotate.Order(strings.Repeat("\xff", n))
		for at, i := range l {
			if at != i {
				t.Fatal(n, l)
			}
		}
	}
	const many = 1000
	l := rotate.Order(strings.Repeat("cab", many))
	for at, i := range l {
		if i != at%many*3+[]int{1, 2, 0}[at/many] {
			t.Fatal(at, i)
		}
	}
}

// P4.2: a text that falls from its first byte to its last, and one that rises.
func TestOrderOfAllBytes(t *testing.T) {
	up := rotate.Order(bytes())
	down := []byte(bytes())
	slices.Reverse(down)
	for at, i := range rotate.Order(string(down)) {
		if i != 255-at || up[at] != at {
			t.Fatal(at, i, up[at])
		}
	}
}

// P4.4
func TestOrderRises(t *testing.T) {
	for name, s := range long() {
		l := rotate.Order(s)
		seen := make([]bool, len(s))
		for at, i := range l {
			if i < 0 || i >= len(s) || seen[i] {
				t.Fatal(name, at, i)
			}
			seen[i] = true
		}
		if len(l) != len(s) {
			t.Fatal(name, len(l))
		}
		for at := 1; at < len(l); at += 5 {
			c, e := rotate.Cmp(s, l[at-1], l[at])
			if c > 0 || c == 0 && l[at-1] > l[at] || e != api.OK {
				t.Fatal(name, at, l[at-1], l[at])
			}
		}
	}
}

// P4.2: Order has no limit of its own.
func TestOrderBeyondTheLimits(t *testing.T) {
	n := 3*api.MaxText + 1
	l := rotate.Order(strings.Repeat("a", n-1) + "b")
	if len(l) != n || !slices.IsSorted(l) || l[n-1] != n-1 {
		t.Error(len(l))
	}
}

// P4.2: what is handed out is new memory (rule 4).
func TestOrderIsNew(t *testing.T) {
	first := rotate.Order("mississippi")
	kept := slices.Clone(first)
	clear(first)
	again := rotate.Order("mississippi")
	if !slices.Equal(again, kept) {
		t.Error(again)
	}
	rotate.Order("banana")
	if !slices.Equal(again, kept) {
		t.Error(again)
	}
}

// wantRank holds one answer against what it should be.
func wantRank(t *testing.T, s string, i, want int, wantE api.Errno) {
	t.Helper()
	if v, e := rotate.Rank(s, i); v != want || e != wantE {
		t.Fatalf("Rank of %d bytes (%.20q), %d = %d, %d; not %d, %d", len(s), s, i, v, int(e), want, int(wantE))
	}
}

// P4.2
func TestRankOfTheExample(t *testing.T) {
	wantRank(t, "banana", 0, 3, api.OK)
	for at, i := range []int{5, 3, 1, 0, 4, 2} {
		wantRank(t, "banana", i, at, api.OK)
	}
	for at, i := range []int{0, 2, 1, 3} {
		wantRank(t, "abab", i, at, api.OK)
	}
}

// P4.2: each number of many texts.
func TestRankAsTheModel(t *testing.T) {
	for _, s := range append(allTexts("ab", 8), texts()...) {
		for at, i := range modelOrder(s) {
			if len(s) < 60 || at%29 == 0 {
				wantRank(t, s, i, at, api.OK)
			}
		}
	}
}

// P4.2: where bzip2 says in its blocks that the text itself stands.
func TestRankAsInRealBlocks(t *testing.T) {
	var squares, thirds []byte
	for i := range 5000 {
		squares = append(squares, byte(i*i%251))
	}
	for i := range 100000 {
		thirds = append(thirds, byte(i*i/3))
	}
	falling := []byte(bytes())
	slices.Reverse(falling)
	blocks := []struct {
		s    string
		want int
	}{
		{"a", 0}, {"ab", 0}, {"ba", 1}, {"bca", 1}, {"zyx", 2}, {"kist", 1},
		{"banana", 3}, {"aabaabc", 0}, {"abracadabra", 2}, {"mississippi", 4},
		{"the quick brown fox jumps over the lazy dog", 35},
		{"\x00\xff\x80\x7f\x00\xff\x80\x7e", 1},
		{bytes(), 0}, {string(falling), 255}, {fibonacci(1000), 609}, {thue(4096), 2047},
		{string(squares), 19}, {string(thirds), 520},
	}
	for _, b := range blocks {
		wantRank(t, b.s, 0, b.want, api.OK)
	}
}

// P4.2: numbers that are not there.
func TestRankRefuses(t *testing.T) {
	for _, s := range []string{"", "a", "ab", "aaaa", "banana", bytes()} {
		for _, n := range wrongNumbers(len(s)) {
			wantRank(t, s, n, 0, api.ErrArg)
		}
	}
	wantRank(t, "", 0, 0, api.ErrArg)
	wantRank(t, "a", 0, 0, api.OK)
	wantRank(t, "a", 1, 0, api.ErrArg)
	wantRank(t, "ba", 1, 0, api.OK)
	wantRank(t, "ba", 2, 0, api.ErrArg)
}
