package rle_test

import (
	"math"
	"strings"
	"testing"

	"kist/api"
	"kist/rle"
)

// P3.3
func TestFitOfTheExamples(t *testing.T) {
	if n := rle.Fit("aaaab", 4); n != 3 {
		t.Error(n)
	}
	if n := rle.Fit("aaaab", 5); n != 4 {
		t.Error(n)
	}
}

// P3.3: where there is no room.
func TestFitOfNothing(t *testing.T) {
	for _, most := range []int{0, -1, -2, -5, math.MinInt32, math.MinInt + 1, math.MinInt} {
		for _, s := range []string{"", "a", "aaa", "aaaa", "aaaaa", "ab", sample} {
			if n := rle.Fit(s, most); n != 0 {
				t.Errorf("Fit(%q, %d) = %d", s, most, n)
			}
		}
	}
	for _, most := range []int{1, 2, 5, math.MaxInt} {
		if n := rle.Fit("", most); n != 0 {
			t.Error(most, n)
		}
	}
}

// P3.3: the whole text, where there is room for it.
func TestFitOfTheWhole(t *testing.T) {
	for _, s := range append(texts(), allTexts("ab", 10)...) {
		need := len(modelEncode(s))
		for _, most := range []int{need, need + 1, need + 2, 2*need + 5, math.MaxInt32, math.MaxInt - 1, math.MaxInt} {
			if n := rle.Fit(s, most); n != len(s) {
				t.Fatalf("Fit(%q, %d) = %d", s, most, n)
			}
		}
		if n := rle.Fit(s, need-1); s != "" && n >= len(s) {
			t.Fatalf("Fit(%q, %d) = %d", s, need-1, n)
		}
	}
}

// P3.3
func TestFitAsTheModel(t *testing.T) {
	l := allTexts("ab", 9)
	for k := range 12 {
		l = append(l, strings.Repeat("a", k)+strings.Repeat("b", 9-k/2)+"aaaa")
	}
	for _, s := range l {
		lengths := modelLengths(s)
		for most := -1; most < len(s)*5/4+3; most++ {
			if n := rle.Fit(s, most); n != modelFit(lengths, most) {
				t.Fatalf("Fit(%q, %d) = %d", s, most, n)
			}
		}
	}
}

// P3.3: within runs that are as long as one may be, and longer.
func TestFitInLongRuns(t *testing.T) {
	for _, k := range []int{250, 254, 255, 256, 257, 258, 259, 260, 510, 511, 514, 765, 1020} {
		for _, s := range []string{strings.Repeat("a", k), "xy" + strings.Repeat("\xfb", k) + "zzzz"} {
			lengths := modelLengths(s)
			for most := range 40 {
				if n := rle.Fit(s, most); n != modelFit(lengths, most) {
					t.Fatal(k, most, n)
				}
			}
		}
	}
}

// P3.3: what fits does, and a byte more does not.
func TestFitIsTheGreatest(t *testing.T) {
	c := chain(33)
	for range 60 {
		s := c.runs(1 + c.next()%60)
		for range 20 {
			most := c.next() % 300
			n := rle.Fit(s, most)
			if len(modelEncode(s[:n])) > most || n < len(s) && len(modelEncode(s[:n+1])) <= most {
				t.Fatalf("Fit(%q, %d) = %d", s, most, n)
			}
		}
	}
}

// P3.3: Fit has no limit of its own, and looks no further than it needs.
func TestFitOfLongTexts(t *testing.T) {
	const many = api.MaxText / 2
	s := strings.Repeat("z", 255*many)
	if n := rle.Fit(s, 5*many); n != len(s) {
		t.Error(n)
	}
	if n := rle.Fit(s, 5*many-1); n != len(s)-252 {
		t.Error(n)
	}
	for range 1 << 16 {
		if n := rle.Fit(s, 12); n != 512 {
			t.Fatal(n)
		}
	}
}
