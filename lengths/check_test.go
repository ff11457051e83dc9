package lengths_test

import (
	"math"
	"slices"
	"testing"

	"kist/api"
	"kist/lengths"
)

// wantCheck tells what Check and Full answer against what they should.
func wantCheck(t *testing.T, l []int, wantE api.Errno, wantFull bool) {
	t.Helper()
	if e, full := lengths.Check(l), lengths.Full(l); e != wantE || full != wantFull {
		t.Fatalf("%d lengths %.60v: Check %d, Full %v, not %d, %v", len(l), l, int(e), full, int(wantE), wantFull)
	}
}

// wantCost tells what Cost answers against what it should.
func wantCost(t *testing.T, w, l []int, want int, wantE api.Errno) {
	t.Helper()
	if sum, e := lengths.Cost(w, l); sum != want || e != wantE {
		t.Fatalf("Cost(%v; %v) = %d, %d, not %d, %d", w, l, sum, int(e), want, int(wantE))
	}
}

// P8.4
func TestCheckOfTheExamples(t *testing.T) {
	wantCheck(t, []int{1, 1, 1}, api.ErrLengths, false)
	wantCheck(t, []int{1, 2}, api.OK, false)
	wantCheck(t, []int{1, 1}, api.OK, true)
	wantCost(t, []int{3, 1}, []int{1, 2}, 5, api.OK)
}

// P8.4: all rows of a few lengths.
func TestCheckAsTheModel(t *testing.T) {
	for n := range 6 {
		for _, l := range rows(0, 5, n) {
			wantCheck(t, l, modelCheck(l), modelFull(l))
		}
	}
	c := chain(86)
	for range 5000 {
		var l []int
		for range 2 + c.next()%30 {
			l = append(l, 1+c.next()%20)
		}
		for range c.next() % 300 {
			l = append(l, 8+c.next()%13)
		}
		wantCheck(t, l, modelCheck(l), modelFull(l))
	}
}

// comb are lengths of which each is one more than the one ahead, up to n, and n once more: they are full.
func comb(n int) []int {
	var l []int
	for v := 1; v <= n; v++ {
		l = append(l, v)
	}
	return append(l, n)
}

// P8.4: full lengths, and such as have one code of the longest too few or too many.
func TestFullToTheLastCode(t *testing.T) {
	for n := 1; n <= 20; n++ {
		wantCheck(t, comb(n), api.OK, true)
		wantCheck(t, append(comb(n), 20), api.ErrLengths, false)
		if n > 1 {
			wantCheck(t, comb(n)[:n], api.OK, false)
			wantCheck(t, comb(n)[1:], api.OK, false)
			wantCheck(t, append(comb(n)[:n], n-1), api.ErrLengths, false)
		}
		if n < 20 {
			wantCheck(t, append(comb(n)[:n], n+1), api.OK, false)
			wantCheck(t, append(comb(n)[:n], n+1, n+1), api.OK, true)
		}
	}
	for k := 1; k <= 8; k++ {
		n := 1 << k
		wantCheck(t, slices.Repeat([]int{k}, n), api.OK, true)
		wantCheck(t, append(slices.Repeat([]int{k}, n), 20), api.ErrLengths, false)
		wantCheck(t, append(slices.Repeat([]int{k}, n-1), k+1), api.OK, false)
	}
}

// P8.4: how many there may be, and from where to where.
func TestCheckAtTheEdges(t *testing.T) {
	for _, n := range []int{0, 1, 259, 260, 512, 514, 1 << 17} {
		wantCheck(t, slices.Repeat([]int{20}, n), api.ErrLengths, false)
	}
	wantCheck(t, nil, api.ErrLengths, false)
	wantCheck(t, []int{1}, api.ErrLengths, false)
	for n := 2; n <= 258; n++ {
		wantCheck(t, slices.Repeat([]int{20}, n), api.OK, false)
		wantCheck(t, slices.Repeat([]int{9}, n), api.OK, false)
		flat, _ := lengths.Flat(make([]int, n))
		wantCheck(t, flat, api.OK, true)
	}
	wantCheck(t, slices.Repeat([]int{1}, 258), api.ErrLengths, false)
	for _, v := range []int{0, -1, -2, -20, -64, 21, 22, 63, 64, 65, 1<<32 + 1, -1<<32 + 1, math.MinInt, math.MinInt + 1, math.MaxInt, math.MaxInt - 1} {
		for _, l := range [][]int{{v, 1}, {1, v}, {v, v}, {2, v, 2, 2}, {20, v}, {1, 2, 2, v}, append(comb(20), v)} {
			wantCheck(t, l, api.ErrLengths, false)
		}
	}
}

// P8.4: a weight of 0 costs nothing, and lengths need not be such as Check takes.
func TestCostAsTheModel(t *testing.T) {
	wantCost(t, []int{0, 0}, []int{20, 20}, 0, api.OK)
	wantCost(t, []int{7, 9}, []int{0, 0}, 0, api.OK)
	wantCost(t, []int{0, 9}, []int{5, 0}, 0, api.OK)
	wantCost(t, []int{1, 1, 1}, []int{1, 1, 1}, 3, api.OK)
	wantCost(t, slices.Repeat([]int{1 << 30}, 258), slices.Repeat([]int{20}, 258), 258*20<<30, api.OK)
	for _, w := range rows(0, 2, 3) {
		for _, l := range rows(0, 3, 3) {
			want, wantE := modelCost(w, l)
			wantCost(t, w, l, want, wantE)
		}
	}
	c := chain(87)
	for _, w := range someWeights() {
		l := c.weights(len(w), 20)
		want, wantE := modelCost(w, l)
		wantCost(t, w, l, want, wantE)
	}
}

// P8.1, P8.4
func TestCostRefuses(t *testing.T) {
	for _, w := range wrongWeights() {
		wantCost(t, w, slices.Repeat([]int{1}, len(w)), 0, api.ErrArg)
		wantCost(t, w, nil, 0, api.ErrArg)
	}
	for n := 2; n <= 258; n += 32 {
		w := slices.Repeat([]int{2}, n)
		for _, other := range []int{0, 1, n - 1, n + 1, 2 * n, 259} {
			if other != n {
				wantCost(t, w, slices.Repeat([]int{1}, other), 0, api.ErrArg)
			}
		}
		wantCost(t, w, slices.Repeat([]int{1}, n), 2*n, api.OK)
	}
	for _, v := range []int{-1, -2, -20, 21, 22, 1 << 32, 1<<32 + 1, -1 << 32, math.MinInt, math.MinInt + 1, math.MaxInt, math.MaxInt - 1} {
		for _, w := range [][]int{{0, 0}, {1, 1}, {0, 5}, {5, 0}, {1 << 30, 1 << 30}} {
			wantCost(t, w, []int{v, 1}, 0, api.ErrArg)
			wantCost(t, w, []int{1, v}, 0, api.ErrArg)
			wantCost(t, w, []int{v, v}, 0, api.ErrArg)
		}
	}
}

// Rule 4: what is handed in is not changed. Rule 5: an answer does not hang on what was asked ahead of it.
func TestCheckAlone(t *testing.T) {
	w, l := []int{0, 3, 1}, []int{2, 1, 2}
	for range 2 {
		wantCost(t, w, l, 5, api.OK)
		wantCheck(t, l, api.OK, true)
		wantCheck(t, []int{1, 1, 1}, api.ErrLengths, false)
	}
	if !slices.Equal(w, []int{0, 3, 1}) || !slices.Equal(l, []int{2, 1, 2}) {
		t.Error(w, l)
	}
}
