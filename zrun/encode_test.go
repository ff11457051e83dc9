package zrun_test

import (
	"math"
	"math/bits"
	"slices"
	"testing"

	"kist/api"
	"kist/zrun"
)

// run tells what Run answers against what it should.
func run(t *testing.T, k int, want []int, wantE api.Errno) {
	t.Helper()
	if l, e := zrun.Run(k); !slices.Equal(l, want) || e != wantE {
		t.Fatalf("Run(%d) = %v, %d, not %v, %d", k, l, int(e), want, int(wantE))
	}
}

// encode tells what Encode answers against what it should.
func encode(t *testing.T, n int, l, want []int, wantE api.Errno) {
	t.Helper()
	if out, e := zrun.Encode(n, l...); !slices.Equal(out, want) || e != wantE {
		t.Fatalf("Encode(%d; %v) = %v, %d, not %v, %d", n, l, out, int(e), want, int(wantE))
	}
}

// P7.1
func TestRunOfTheExamples(t *testing.T) {
	run(t, 0, nil, api.OK)
	run(t, 1, []int{0}, api.OK)
	run(t, 2, []int{1}, api.OK)
	run(t, 3, []int{0, 0}, api.OK)
	run(t, 4, []int{1, 0}, api.OK)
	run(t, 5, []int{0, 1}, api.OK)
	run(t, 6, []int{1, 1}, api.OK)
	run(t, 7, []int{0, 0, 0}, api.OK)
}

// P7.1: what the digits count is the run, and no other row of as many digits counts as much.
func TestRunCounts(t *testing.T) {
	seen := map[int]bool{}
	for _, l := range rows(0, 1, 12) {
		k := 0
		for i, d := range l {
			k += (d + 1) << i
		}
		if seen[k] {
			t.Fatalf("two rows of %d", k)
		}
		seen[k] = true
		run(t, k, l, api.OK)
	}
	if len(seen) != 1<<13-1 {
		t.Error(len(seen))
	}
}

// P7.1: numbers by the powers of two, up to the greatest and beyond it.
func TestRunAsTheModel(t *testing.T) {
	for i := range 63 {
		for d := -4; d <= 4; d++ {
			want, wantE := modelRun(1<<i + d)
			run(t, 1<<i+d, want, wantE)
		}
	}
	c := chain(72)
	for range 2000 {
		k := c.next() >> (c.next() % 31)
		want, wantE := modelRun(k)
		run(t, k, want, wantE)
	}
	run(t, 1<<31-1, make([]int, 31), api.OK)
	run(t, 1<<31-2, slices.Repeat([]int{1}, 30), api.OK)
	for _, k := range []int{-1, -2, 1 << 31, 1<<31 + 1, 1 << 32, 1<<32 + 1, -1 << 31, -1 << 32, -1<<32 + 1, math.MinInt, math.MinInt + 1, math.MaxInt, math.MaxInt - 1} {
		run(t, k, nil, api.ErrArg)
	}
}

// P7.2
func TestEncodeOfTheExamples(t *testing.T) {
	encode(t, 3, []int{0, 0, 0, 2, 1, 0}, []int{0, 0, 3, 2, 0, 4}, api.OK)
	encode(t, 3, nil, []int{4}, api.OK)
	encode(t, 1, nil, []int{2}, api.OK)
	encode(t, 256, []int{255}, []int{256, 257}, api.OK)
}

// blocks are places as bzip2 has them of the last columns that stand in its blocks, and the symbols that were read out of the blocks.
func blocks() []struct {
	n               int
	places, symbols []int
} {
	return []struct {
		n               int
		places, symbols []int
	}{
		{1, spread(-1), []int{0, 2}},
		{1, spread(-2), []int{1, 2}},
		{1, spread(-3), []int{0, 0, 2}},
		{2, spread(1, -3, 1), []int{2, 0, 0, 2, 3}},
		{3, spread(2, 0, 2, 2, -2), []int{3, 0, 3, 3, 1, 4}},
		{4, spread(2, 3, 0, 3, 3, 3, 1, 3, 0, 1, 0), []int{3, 4, 0, 4, 4, 4, 2, 4, 0, 2, 0, 5}},
		{2, spread(1, -19, 1, -39), []int{2, 0, 0, 1, 0, 2, 0, 0, 0, 1, 0, 3}},
		{26, spread(11, 11, 10, 24, 11, 0, 22, 15, 16, 21, 0, 22, 24, 13, 15, 3, 24, 16, 24, 24, 19, 22, 7, 20, 1, 23, 5, 22, 24, 24, 16, -2, 25, 25), []int{12, 12, 11, 25, 12, 0, 23, 16, 17, 22, 0, 23, 25, 14, 16, 4, 25, 17, 25, 25, 20, 23, 8, 21, 2, 24, 6, 23, 25, 25, 17, 1, 26, 26, 27}},
		{5, spread(4, -11, 4, -11, 2, -11, 2, -11, 4, -11, 2, -47, 4, -23), []int{5, 0, 0, 1, 5, 0, 0, 1, 3, 0, 0, 1, 3, 0, 0, 1, 5, 0, 0, 1, 3, 0, 0, 0, 0, 1, 5, 0, 0, 0, 1, 6}},
		{2, spread(1, -99, 1, -99), []int{2, 0, 0, 1, 0, 0, 1, 2, 0, 0, 1, 0, 0, 1, 3}},
		{14, spread(8, 0, 12, 11, 7, 0, 5, 12, 4, 3, 9, 7, 0, 9, 2, 1, 13, 5, -2, 4, 0, 9, 2, 0, 11, 3, 12, 1, 4, 3, 8, 12, 3, 4, 0, 10, 6, 2, 13), []int{9, 0, 13, 12, 8, 0, 6, 13, 5, 4, 10, 8, 0, 10, 3, 2, 14, 6, 1, 5, 0, 10, 3, 0, 12, 4, 13, 2, 5, 4, 9, 13, 4, 5, 0, 11, 7, 3, 14, 15}},
		{3, spread(1, 2, -32, 2, -32), []int{2, 3, 1, 0, 0, 0, 0, 3, 1, 0, 0, 0, 0, 4}},
		{4, spread(3, 3, -43, 2, -44, 3, -44, 2), []int{4, 4, 0, 0, 1, 1, 0, 3, 1, 0, 1, 1, 0, 4, 1, 0, 1, 1, 0, 3, 5}},
	}
}

// P7.2
func TestEncodeAsBzip2(t *testing.T) {
	for _, b := range blocks() {
		encode(t, b.n, b.places, b.symbols, api.OK)
	}
}

// P7.2
func TestEncodeAsTheModel(t *testing.T) {
	for n := range 5 {
		for _, l := range rows(-1, 4, 5) {
			want, wantE := modelEncode(n, l)
			encode(t, n, l, want, wantE)
		}
	}
	for _, r := range someRows() {
		want, wantE := modelEncode(r.n, r.l)
		encode(t, r.n, r.l, want, wantE)
	}
	for k := range 600 {
		for _, l := range [][]int{spread(-k), spread(1, -k), spread(-k, 1), spread(-k, 2, -k), spread(1, -k, 1)} {
			if k == 0 {
				l = slices.DeleteFunc(l, func(x int) bool { return x == 0 })
			}
			want, wantE := modelEncode(3, l)
			encode(t, 3, l, want, wantE)
		}
	}
}

// P7.2: ErrArg is named ahead of ErrSymbol.
func TestEncodeRefuses(t *testing.T) {
	for _, n := range wrongCounts() {
		for _, l := range [][]int{nil, {}, {0}, {1}, {-1}, {1 << 40}, {0, 0, 300}} {
			encode(t, n, l, nil, api.ErrArg)
		}
	}
	for n := 1; n <= 256; n++ {
		for x := 1; x < n; x++ {
			encode(t, n, []int{x}, []int{x + 1, n + 1}, api.OK)
		}
		for _, x := range wrongNumbers(n - 1) {
			if x >= 0 && x < n {
				continue
			}
			for _, l := range [][]int{{x}, {0, x}, {x, 0}, {0, 0, x, 0}, {n - 1, x}, {x, n - 1}} {
				encode(t, n, l, nil, api.ErrSymbol)
			}
		}
	}
}

// P7.2: there is no limit to how many places there are.
func TestEncodeOfLongRows(t *testing.T) {
	for _, k := range []int{api.MaxText - 1, api.MaxText, api.MaxText + 1, 1 << 20, 1<<20 + 5} {
		digits := modelDigits(k)
		encode(t, 256, make([]int, k), append(digits, 257), api.OK)
		encode(t, 2, append(make([]int, k), 1), append(modelDigits(k), 2, 3), api.OK)
		out, e := zrun.Encode(2, slices.Repeat([]int{1}, k)...)
		if e != api.OK || len(out) != k+1 || slices.Max(out[:k]) != 2 || slices.Min(out) != 2 || out[k] != 3 {
			t.Fatal(k, len(out), int(e))
		}
	}
}

// P7.5
func TestShorter(t *testing.T) {
	for _, r := range someRows() {
		out, e := zrun.Encode(r.n, r.l...)
		if e != api.OK || len(out) > len(r.l)+1 || len(out) == 0 || out[len(out)-1] != r.n+1 {
			t.Fatalf("Encode(%d; %v) = %v, %d", r.n, r.l, out, int(e))
		}
	}
	for _, k := range []int{0, 1, 2, 3, 4, 6, 7, 8, 14, 15, 16, 1<<16 - 1, 1 << 16, 1<<31 - 2, 1<<31 - 1} {
		if l, _ := zrun.Run(k); len(l) != bits.Len(uint(k)+1)-1 {
			t.Errorf("Run(%d) has %d digits", k, len(l))
		}
	}
	for k := range 5000 {
		l, _ := zrun.Run(k)
		out, _ := zrun.Encode(1, make([]int, k)...)
		if len(l) != bits.Len(uint(k)+1)-1 || len(out) != len(l)+1 {
			t.Fatalf("%d noughts: %d digits, %d symbols", k, len(l), len(out))
		}
	}
}

// Rule 4: what is handed in is not changed, nor its spare room; what is handed out is new. Rule 5: an answer does not hang on what was asked ahead of it.
func TestEncodeAlone(t *testing.T) {
	room := []int{0, 0, 0, 2, 1, 0, 9, 9, 9}
	first, _ := zrun.Encode(3, room[:6]...)
	if want := []int{0, 0, 0, 2, 1, 0, 9, 9, 9}; !slices.Equal(room, want) {
		t.Error(room)
	}
	clear(room)
	if want := []int{0, 0, 3, 2, 0, 4}; !slices.Equal(first, want) {
		t.Error(first)
	}
	clear(first)
	encode(t, 3, []int{0, 0, 0, 2, 1, 0}, []int{0, 0, 3, 2, 0, 4}, api.OK)
	none, _ := zrun.Encode(3, room[:0]...)
	if want := []int{4}; !slices.Equal(none, want) || slices.Max(room) != 0 {
		t.Error(none, room)
	}
	six, _ := zrun.Run(6)
	clear(six)
	run(t, 6, []int{1, 1}, api.OK)
}
