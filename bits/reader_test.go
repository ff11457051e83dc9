package bits_test

import (
	"math"
	"strings"
	"testing"

	"kist/api"
	"kist/bits"
)

// P1.2
func TestNewReaderStandsAtEachBit(t *testing.T) {
	for _, s := range []string{"", "a", "\xff\x00", sample} {
		for at := range 8*len(s) + 1 {
			r := bits.NewReader(s, at)
			if r == nil {
				t.Fatalf("no reader of %x at %d", s, at)
			}
			stands(t, r, s, at)
		}
		for _, at := range append(wrongCounts(), 8*len(s)+1, 8*len(s)+8) {
			if bits.NewReader(s, at) != nil {
				t.Errorf("a reader of %x at %d", s, at)
			}
		}
	}
}

// P1.2: each width from each place, with as many bits as it asks for, or fewer.
func TestTakeOfEachWidthAtEachPlace(t *testing.T) {
	want := row(sample)
	for at := range len(want) + 1 {
		for n := range 65 {
			r := bits.NewReader(sample, at)
			v, e := r.Take(n)
			if at+n > len(want) {
				if v != 0 || e != api.ErrShort {
					t.Fatal(at, n, v, int(e))
				}
				stands(t, r, sample, at)
				continue
			}
			if v != number(want[at:at+n]) || e != api.OK {
				t.Fatal(at, n, v, int(e))
			}
			stands(t, r, sample, at+n)
		}
	}
}

// P1.2: widths that are none, also where there are no bits any more: ErrArg is named ahead of ErrShort.
func TestTakeRefuses(t *testing.T) {
	for _, at := range []int{0, 5, 8 * len(sample)} {
		r := bits.NewReader(sample, at)
		for _, n := range append(wrongCounts(), 65, 72, 128) {
			if v, e := r.Take(n); v != 0 || e != api.ErrArg {
				t.Errorf("Take(%d) = %d, %d", n, v, int(e))
			}
			stands(t, r, sample, at)
		}
	}
}

// P1.2: behind an error the reader goes on from where it stood.
func TestTakeGoesOnBehindErrors(t *testing.T) {
	r := bits.NewReader("\xe8", 0)
	if n, e := r.Unary(3); n != 3 || e != api.OK {
		t.Error(n, int(e))
	}
	if v, e := r.Take(2); v != 2 || e != api.OK {
		t.Error(v, int(e))
	}
	if v, e := r.Take(3); v != 0 || e != api.ErrShort {
		t.Error(v, int(e))
	}
	stands(t, r, "\xe8", 6)
	if v, e := r.Take(2); v != 0 || e != api.OK {
		t.Error(v, int(e))
	}
	if v, e := r.Take(0); v != 0 || e != api.OK {
		t.Error(v, int(e))
	}
	stands(t, r, "\xe8", 8)
}

// unary is what Unary should tell of the rest of a row, bit by bit.
func unary(rest string, most int) (int, api.Errno) {
	ones := len(rest) - len(strings.TrimLeft(rest, "1"))
	if ones > most {
		return 0, api.ErrBig
	}
	if ones == len(rest) {
		return 0, api.ErrShort
	}
	return ones, api.OK
}

// P1.2: each place, with bounds below, at and above how many 1 bits stand there.
func TestUnaryAtEachPlace(t *testing.T) {
	for _, s := range []string{"", "\xff", "\xe8", "\xff\xff\xfe", "\x00\xff", sample, strings.Repeat("\xff", 40) + "\x7f"} {
		want := row(s)
		for at := range len(want) + 1 {
			for _, most := range []int{0, 1, 2, 3, 6, 7, 8, 9, 15, 16, 22, 23, 24, 319, 320, 321, math.MaxInt - 1, math.MaxInt} {
				n, e := unary(want[at:], most)
				r := bits.NewReader(s, at)
				if m, f := r.Unary(most); m != n || f != e {
					t.Fatalf("Unary(%d) of %x at %d = %d, %d, not %d, %d", most, s, at, m, int(f), n, int(e))
				}
				behind := at
				if e == api.OK {
					behind += n + 1
				}
				stands(t, r, s, behind)
			}
		}
	}
}

// P1.2: a bound below 0 is refused ahead of all else.
func TestUnaryRefuses(t *testing.T) {
	for _, s := range []string{"", "\x00", "\xff"} {
		for _, most := range []int{-1, -2, math.MinInt} {
			r := bits.NewReader(s, 0)
			if n, e := r.Unary(most); n != 0 || e != api.ErrArg {
				t.Errorf("Unary(%d) of %x = %d, %d", most, s, n, int(e))
			}
			stands(t, r, s, 0)
		}
	}
}

// P1.2: bit by bit: which of ErrBig and ErrShort comes first.
func TestUnaryErrorsComeBitByBit(t *testing.T) {
	r := bits.NewReader("\xff", 0)
	if n, e := r.Unary(7); n != 0 || e != api.ErrBig {
		t.Error(n, int(e))
	}
	if n, e := r.Unary(8); n != 0 || e != api.ErrShort {
		t.Error(n, int(e))
	}
	if n, e := r.Unary(0); n != 0 || e != api.ErrBig {
		t.Error(n, int(e))
	}
	stands(t, r, "\xff", 0)
	r = bits.NewReader("\xff", 8)
	if n, e := r.Unary(0); n != 0 || e != api.ErrShort {
		t.Error(n, int(e))
	}
}

// P1.2, rule 1: nil, and a reader that NewReader did not make; ErrNil is named ahead of all else.
func TestReaderThatIsNone(t *testing.T) {
	for _, r := range []*bits.Reader{nil, {}, new(bits.Reader), bits.NewReader("", 1)} {
		for _, n := range []int{0, 1, 64, 65, -1} {
			if v, e := r.Take(n); v != 0 || e != api.ErrNil {
				t.Errorf("Take(%d) = %d, %d", n, v, int(e))
			}
			if v, e := r.Unary(n); v != 0 || e != api.ErrNil {
				t.Errorf("Unary(%d) = %d, %d", n, v, int(e))
			}
		}
		if r.At() != 0 || r.Left() != 0 {
			t.Error(r.At(), r.Left())
		}
	}
}

// P1.2, rule 5: readers of one text have nothing in common.
func TestReadersStandAlone(t *testing.T) {
	a, b := bits.NewReader(sample, 0), bits.NewReader(sample, 8)
	a.Take(20)
	if v, e := b.Take(8); v != 0xff || e != api.OK {
		t.Error(v, int(e))
	}
	stands(t, a, sample, 20)
	stands(t, b, sample, 16)
}
