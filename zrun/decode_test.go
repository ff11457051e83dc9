package zrun_test

import (
	"math"
	"slices"
	"testing"

	"kist/api"
	"kist/zrun"
)

// decode tells what Decode answers against what it should.
func decode(t *testing.T, n, most int, l, want []int, wantE api.Errno) {
	t.Helper()
	if out, e := zrun.Decode(n, most, l...); !slices.Equal(out, want) || e != wantE {
		t.Fatalf("Decode(%d, %d; %v) = %d places, %d, not %d places, %d", n, most, l, len(out), int(e), len(want), int(wantE))
	}
}

// P7.3
func TestDecodeOfTheExamples(t *testing.T) {
	decode(t, 3, 9, []int{1, 4}, []int{0, 0}, api.OK)
	decode(t, 3, 1, []int{1, 4}, nil, api.ErrBig)
	decode(t, 3, 9, []int{1}, nil, api.ErrEnd)
	decode(t, 3, 9, []int{4, 0}, nil, api.ErrEnd)
	decode(t, 3, 6, []int{0, 0, 3, 2, 0, 4}, []int{0, 0, 0, 2, 1, 0}, api.OK)
	decode(t, 3, 0, []int{4}, nil, api.OK)
	decode(t, 3, 0, nil, nil, api.ErrEnd)
}

// P7.3, P7.4
func TestDecodeAsBzip2(t *testing.T) {
	for _, b := range blocks() {
		decode(t, b.n, len(b.places), b.symbols, b.places, api.OK)
		decode(t, b.n, api.MaxText, b.symbols, b.places, api.OK)
		decode(t, b.n, len(b.places)-1, b.symbols, nil, api.ErrBig)
	}
}

// P7.3: all short rows of symbols, with those that may not be at each place.
func TestDecodeAsTheModel(t *testing.T) {
	for n := 1; n <= 3; n++ {
		for _, l := range rows(-1, n+2, 5) {
			for _, most := range []int{0, 1, 2, 3, 4, 5, 6, 7, 8, 40} {
				want, wantE := modelDecode(n, most, l)
				decode(t, n, most, l, want, wantE)
			}
		}
	}
	for _, l := range rows(0, 4, 6) {
		for _, most := range []int{2, 7, 14, 15, 200} {
			want, wantE := modelDecode(3, most, l)
			decode(t, 3, most, l, want, wantE)
		}
	}
}

// P7.3: rows that Encode may not write, and ends where they should not stand.
func TestDecodeOfMixedRows(t *testing.T) {
	c := chain(73)
	for range 20000 {
		n := []int{1, 2, 3, 20, 255, 256}[c.next()%6]
		var l []int
		for range c.next() % 30 {
			s := c.next() % (n + 1)
			switch c.next() % 80 {
			case 0:
				s = n + 1
			case 1:
				s = wrongNumbers(n + 1)[c.next()%20]
			}
			l = append(l, s)
		}
		if c.next()%8 > 0 {
			l = append(l, n+1)
		}
		most := []int{c.next() % 8, c.next() % 64, c.next() % 5000, api.MaxText}[c.next()%4]
		want, wantE := modelDecode(n, most, l)
		decode(t, n, most, l, want, wantE)
	}
}

// P7.3: ErrArg is named first.
func TestDecodeNeedsItsNumbers(t *testing.T) {
	wrong := [][]int{nil, {}, {4}, {0}, {-1}, {1 << 40}, {1, 4}, {4, 4}, {4, -1}}
	for _, l := range wrong {
		for _, n := range wrongCounts() {
			for _, most := range []int{0, 9, api.MaxText, -1, api.MaxText + 1} {
				decode(t, n, most, l, nil, api.ErrArg)
			}
		}
		for _, most := range []int{-1, -2, -api.MaxText, api.MaxText + 1, api.MaxText + 2, 1 << 32, 1<<32 + 9, -1 << 32, -1<<32 + 9, math.MinInt, math.MinInt + 1, math.MaxInt, math.MaxInt - 1} {
			for _, n := range []int{1, 3, 256} {
				decode(t, n, most, l, nil, api.ErrArg)
			}
		}
	}
	for n := 1; n <= 256; n++ {
		decode(t, n, 0, []int{n + 1}, nil, api.OK)
		decode(t, n, api.MaxText, []int{n + 1}, nil, api.OK)
	}
}

// P7.3: each symbol that there is, and those that there are not.
func TestDecodeNeedsSymbols(t *testing.T) {
	for n := 1; n <= 256; n++ {
		for s := 2; s <= n; s++ {
			decode(t, n, 1, []int{s, n + 1}, []int{s - 1}, api.OK)
			decode(t, n, 0, []int{s, n + 1}, nil, api.ErrBig)
		}
		for _, s := range wrongNumbers(n + 1) {
			if s >= 0 && s <= n+1 {
				continue
			}
			for _, l := range [][]int{{s}, {s, n + 1}, {0, s, n + 1}, {n, s}, {s, s}, {1, 1, s, n + 1}, {n + 1, s}, {0, n + 1, s, s}} {
				decode(t, n, 40, l, nil, api.ErrSymbol)
			}
		}
	}
}

// P7.3: the first fault from the left is told, and at one symbol the one that the chapter names first.
func TestDecodeTellsTheFirstFault(t *testing.T) {
	decode(t, 3, 1, []int{1, -1, 4}, nil, api.ErrBig)
	decode(t, 3, 1, []int{0, -1, 1}, nil, api.ErrSymbol)
	decode(t, 3, 1, []int{0, 0, -1}, nil, api.ErrBig)
	decode(t, 3, 3, []int{0, 0, 5}, nil, api.ErrSymbol)
	decode(t, 3, 2, []int{3, 3, 3, -1}, nil, api.ErrBig)
	decode(t, 3, 2, []int{3, 3, -1, 3}, nil, api.ErrSymbol)
	decode(t, 3, 2, []int{3, 1}, nil, api.ErrBig)
	decode(t, 3, 2, []int{3, 0}, nil, api.ErrEnd)
	decode(t, 3, 1, []int{3, 4, 4, -1}, nil, api.ErrEnd)
	decode(t, 3, 1, []int{3, 4, -1, 4}, nil, api.ErrSymbol)
	decode(t, 3, 9, []int{4, 4}, nil, api.ErrEnd)
	decode(t, 3, 9, []int{4, 3, 5}, nil, api.ErrEnd)
	decode(t, 3, 0, []int{4, 3}, nil, api.ErrEnd)
	decode(t, 3, 0, []int{4, 0}, nil, api.ErrEnd)
	decode(t, 3, 1, []int{0, 4, 1}, nil, api.ErrEnd)
}

// P7.3: runs of many digits count more than any number holds.
func TestDecodeOfLongRuns(t *testing.T) {
	for _, digits := range []int{1, 2, 3, 5, 17, 18, 19, 20, 31, 32, 33, 62, 63, 64, 65, 66, 127, 128, 129, 200} {
		for d := range 2 {
			run := slices.Repeat([]int{d}, digits)
			for _, l := range [][]int{run, slices.Concat(run, []int{4}), slices.Concat([]int{3}, run, []int{4}), slices.Concat(run, []int{-1})} {
				for _, most := range []int{0, 1, 2, 30, api.MaxText - 1, api.MaxText} {
					want, wantE := modelDecode(3, most, l)
					decode(t, 3, most, l, want, wantE)
				}
			}
		}
	}
	for _, d := range []int{0, 1} {
		l := append(slices.Repeat([]int{d}, 1<<20), 4)
		decode(t, 3, api.MaxText, l, nil, api.ErrBig)
		decode(t, 3, 0, l, nil, api.ErrBig)
	}
}

// P7.3: a run is over where another place stands, however many digits it had.
func TestDecodeOfManyRuns(t *testing.T) {
	for k := range 300 {
		l := slices.Concat(modelDigits(k), []int{3}, modelDigits(k), []int{2, 3}, modelDigits(k), []int{4})
		want := slices.Concat(make([]int, k), []int{2}, make([]int, k), []int{1, 2}, make([]int, k))
		decode(t, 3, len(want), l, want, api.OK)
		decode(t, 3, len(want)-1, l, nil, api.ErrBig)
	}
}

// P7.4: also with as many places as there may be at most.
func TestDecodeOfEncode(t *testing.T) {
	all := someRows()
	for _, l := range [][]int{make([]int, api.MaxText), slices.Repeat([]int{1}, api.MaxText), slices.Repeat([]int{0, 2}, api.MaxText/2), spread(-api.MaxText+2, 1, 2), spread(1, -api.MaxText+1)} {
		all = append(all, row{3, l}, row{256, l})
	}
	for _, r := range all {
		l, e := zrun.Encode(r.n, r.l...)
		if e != api.OK {
			t.Fatalf("Encode(%d; %v): %d", r.n, r.l, int(e))
		}
		for _, most := range []int{len(r.l), min(len(r.l)+1, api.MaxText), api.MaxText} {
			decode(t, r.n, most, l, r.l, api.OK)
		}
		for _, most := range []int{len(r.l) - 1, len(r.l) / 2, 0} {
			if most >= 0 && most < len(r.l) {
				decode(t, r.n, most, l, nil, api.ErrBig)
			}
		}
	}
	for _, one := range []int{0, 1} {
		l, _ := zrun.Encode(3, slices.Repeat([]int{one}, api.MaxText+1)...)
		decode(t, 3, api.MaxText, l, nil, api.ErrBig)
	}
}

// Rule 4: what is handed in is not changed, nor its spare room; what is handed out is new. Rule 5: an answer does not hang on what was asked ahead of it.
func TestDecodeAlone(t *testing.T) {
	room := []int{0, 0, 3, 2, 0, 4, 9, 9, 9}
	first, _ := zrun.Decode(3, 20, room[:6]...)
	if want := []int{0, 0, 3, 2, 0, 4, 9, 9, 9}; !slices.Equal(room, want) {
		t.Error(room)
	}
	clear(room)
	if want := []int{0, 0, 0, 2, 1, 0}; !slices.Equal(first, want) {
		t.Error(first)
	}
	clear(first)
	decode(t, 3, 20, []int{0, 0, 3, 2, 0, 4}, []int{0, 0, 0, 2, 1, 0}, api.OK)
}
