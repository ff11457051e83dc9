package bits_test

import (
	"math"
	"slices"
	"strings"
	"testing"

	"kist/api"
	"kist/bits"
)

// P1.3
func TestSliceOfTheExample(t *testing.T) {
	if b, e := bits.Slice("\x0f\xf0", 4, 8); b != (api.Bits{Text: "\xff", N: 8}) || e != api.OK {
		t.Error(b, int(e))
	}
}

// P1.3, P1.4: each piece of a text that there is, and what Slice tells may be.
func TestSliceOfEachPiece(t *testing.T) {
	want := row(sample)
	for at := range len(want) + 1 {
		for n := range len(want) - at + 1 {
			b, e := bits.Slice(sample, at, n)
			if b != piece(want[at:at+n]) || e != api.OK {
				t.Fatal(at, n, b, int(e))
			}
			if j, e := bits.Join(b); j != b || e != api.OK {
				t.Fatal(at, n, j, int(e))
			}
		}
	}
}

// P1.3: places and numbers that are not there.
func TestSliceRefuses(t *testing.T) {
	type call struct {
		s     string
		at, n int
	}
	calls := []call{{"", 0, 1}, {"", 1, 0}, {"a", 0, 9}, {"a", 8, 1}, {"a", 9, 0}, {"a", 9, -1}, {"a", 7, 2}, {sample, 1, 8 * len(sample)}, {sample, 8*len(sample) + 1, 0}, {sample, math.MaxInt, math.MaxInt}, {sample, 1, math.MaxInt}, {sample, math.MaxInt, 1}, {sample, math.MinInt, math.MinInt}, {sample, -1, 2}, {sample, 9, -1}}
	for _, n := range wrongCounts() {
		calls = append(calls, call{sample, 0, n}, call{sample, 8, n}, call{sample, n, 0}, call{sample, n, 8}, call{sample, n, -n})
	}
	for _, c := range calls {
		if b, e := bits.Slice(c.s, c.at, c.n); b != (api.Bits{}) || e != api.ErrArg {
			t.Errorf("Slice(%x, %d, %d) = %v, %d", c.s, c.at, c.n, b, int(e))
		}
	}
	if b, e := bits.Slice("", 0, 0); b != (api.Bits{}) || e != api.OK {
		t.Error(b, int(e))
	}
	if b, e := bits.Slice("a", 8, 0); b != (api.Bits{}) || e != api.OK {
		t.Error(b, int(e))
	}
}

// P1.3
func TestJoinOfPieces(t *testing.T) {
	if b, e := bits.Join(); b != (api.Bits{}) || e != api.OK {
		t.Error(b, int(e))
	}
	if b, e := bits.Join(api.Bits{}, api.Bits{}); b != (api.Bits{}) || e != api.OK {
		t.Error(b, int(e))
	}
	if b, e := bits.Join(api.Bits{Text: "\xa0", N: 3}, api.Bits{Text: "\x40", N: 2}); b != (api.Bits{Text: "\xa8", N: 5}) || e != api.OK {
		t.Error(b, int(e))
	}
	c := chain(31)
	for range 300 {
		var l []api.Bits
		want := ""
		for range c.next() >> 7 % 6 {
			one := ""
			for range c.next() >> 7 % 4 {
				n := c.width()
				one += digits(low(c.next(), n), n)
			}
			l = append(l, piece(one))
			want += one
		}
		kept := slices.Clone(l)
		if b, e := bits.Join(l...); b != piece(want) || e != api.OK {
			t.Fatal(l, b, int(e))
		}
		if !slices.Equal(kept, l) {
			t.Fatal("Join changed its pieces")
		}
	}
}

// P1.3: bits that may not be, wherever they stand among others that may be.
func TestJoinRefuses(t *testing.T) {
	wrong := []api.Bits{
		{Text: "\xff", N: 3}, {Text: "\x01", N: 7}, {Text: "\x80", N: 0}, {Text: "\x00", N: 0},
		{Text: "", N: 1}, {Text: "", N: 8}, {Text: "a", N: 9}, {Text: "a", N: 16},
		{Text: "a\x00", N: 8}, {Text: "\x80\x00", N: 1}, {Text: "\x80\x00\x00", N: 9}, {Text: "\xff\x80", N: 17},
		{Text: "\xff\x40", N: 9}, {Text: "\xff\x01", N: 15}, {Text: "", N: -1}, {Text: "a", N: -1}, {Text: "\x00", N: -1}, {Text: "a", N: -8}, {Text: "a", N: -7},
		{Text: "", N: math.MinInt}, {Text: "a", N: math.MinInt}, {Text: "", N: math.MaxInt}, {Text: "a", N: math.MaxInt}, {Text: "", N: math.MaxInt - 6},
	}
	// One bit too many in each place of the filling.
	for n := 1; n < 8; n++ {
		for k := n; k < 8; k++ {
			wrong = append(wrong, api.Bits{Text: "a" + string([]byte{1 << (7 - k)}), N: 8 + n})
		}
	}
	good := api.Bits{Text: "\xa0", N: 3}
	for _, w := range wrong {
		for _, l := range [][]api.Bits{{w}, {good, w}, {w, good}, {good, w, good}, {w, w}} {
			if b, e := bits.Join(l...); b != (api.Bits{}) || e != api.ErrArg {
				t.Errorf("Join(%v) = %v, %d", l, b, int(e))
			}
		}
	}
}

// P1.4: numbers that were put are taken again by the same widths.
func TestTakeOfPut(t *testing.T) {
	for seed := range 40 {
		c := chain(seed)
		w := bits.NewWriter()
		var widths []int
		var values []uint64
		for range 60 {
			n := c.width()
			v := low(c.next(), n)
			if e := w.Put(v, n); e != api.OK {
				t.Fatal(v, n, int(e))
			}
			widths, values = append(widths, n), append(values, v)
		}
		r := bits.NewReader(w.Text(), 0)
		for i, n := range widths {
			if v, e := r.Take(n); v != values[i] || e != api.OK {
				t.Fatal(seed, i, n, v, int(e))
			}
		}
		if r.At() != w.Len() || r.Left() >= 8 {
			t.Fatal(seed, r.At(), r.Left())
		}
		if rest, e := r.Take(r.Left()); rest != 0 || e != api.OK {
			t.Fatal(seed, rest, int(e))
		}
	}
}

// P1.4: pieces that lie side by side, joined, are the piece from the first one's beginning to the last one's end.
func TestJoinOfNeighbours(t *testing.T) {
	all := 8 * len(sample)
	for from := 0; from <= all; from += 3 {
		for mid := from; mid <= all; mid++ {
			for to := mid; to <= all; to += 5 {
				a, _ := bits.Slice(sample, from, mid-from)
				b, _ := bits.Slice(sample, mid, to-mid)
				whole, _ := bits.Slice(sample, from, to-from)
				if j, e := bits.Join(a, b); j != whole || e != api.OK {
					t.Fatal(from, mid, to, j, int(e))
				}
			}
		}
	}
}

// A long text goes through all calls in a time that grows with its length alone.
func TestLongText(t *testing.T) {
	s := strings.Repeat(sample, 40000)
	a, e := bits.Slice(s, 3, 8*len(s)-3)
	if e != api.OK {
		t.Fatal(int(e))
	}
	head, _ := bits.Slice(s, 0, 3)
	if j, e := bits.Join(head, a); j.Text != s || j.N != 8*len(s) || e != api.OK {
		t.Error(j.N, int(e))
	}
	ones := strings.Repeat("\xff", 300000) + "\x00"
	if n, e := bits.NewReader(ones, 0).Unary(math.MaxInt); n != 2400000 || e != api.OK {
		t.Error(n, int(e))
	}
}
