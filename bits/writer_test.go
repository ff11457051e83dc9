package bits_test

import (
	"math"
	"testing"

	"kist/api"
	"kist/bits"
)

// P1.1
func TestNewWriterHasNoBits(t *testing.T) {
	holds(t, bits.NewWriter(), "")
}

// P1.1
func TestPutLaysTheHighestBitFirst(t *testing.T) {
	w := bits.NewWriter()
	if e := w.Put(5, 3); e != api.OK {
		t.Fatal(int(e))
	}
	if e := w.Put(1, 2); e != api.OK {
		t.Fatal(int(e))
	}
	if w.Text() != "\xa8" || w.Len() != 5 {
		t.Errorf("%x, %d", w.Text(), w.Len())
	}
}

// P1.1: a number of each width behind each number of bits that a byte may already have.
func TestPutOfEachWidthAtEachPlace(t *testing.T) {
	c := chain(11)
	for ahead := range 17 {
		for n := range 65 {
			for _, v := range []uint64{0, low(math.MaxUint64, n), low(c.next(), n)} {
				w := bits.NewWriter()
				first := low(c.next(), ahead)
				if w.Put(first, ahead) != api.OK || w.Put(v, n) != api.OK {
					t.Fatal(first, ahead, v, n)
				}
				holds(t, w, digits(first, ahead)+digits(v, n))
			}
		}
	}
}

// P1.1
func TestPutManyTimes(t *testing.T) {
	c := chain(12)
	w := bits.NewWriter()
	want := ""
	for range 600 {
		n := c.width()
		v := low(c.next(), n)
		if e := w.Put(v, n); e != api.OK {
			t.Fatal(v, n, int(e))
		}
		want += digits(v, n)
		holds(t, w, want)
	}
}

// P1.1: widths that are none, and numbers with a bit beyond their width; nothing is put.
func TestPutRefuses(t *testing.T) {
	type call struct {
		v uint64
		n int
	}
	calls := []call{{4, 2}, {1, 0}, {2, 1}, {math.MaxUint64, 0}, {math.MaxUint64, 63}, {1 << 63, 63}, {0, 65}, {1, 65}, {0, 72}, {0, 128}}
	for n := range 64 {
		calls = append(calls, call{1 << n, n}, call{math.MaxUint64, n})
	}
	for _, n := range wrongCounts() {
		calls = append(calls, call{0, n}, call{1, n})
	}
	for ahead := range 9 {
		w := bits.NewWriter()
		w.Put(low(0x1a5, ahead), ahead)
		for _, c := range calls {
			if e := w.Put(c.v, c.n); e != api.ErrArg {
				t.Errorf("Put(%x, %d) = %d", c.v, c.n, int(e))
			}
			holds(t, w, digits(low(0x1a5, ahead), ahead))
		}
		if e := w.Put(3, 2); e != api.OK {
			t.Error(int(e))
		}
		holds(t, w, digits(low(0x1a5, ahead), ahead)+"11")
	}
}

// P1.1, rule 1: nil, and a writer that NewWriter did not make; ErrNil is named ahead of ErrArg.
func TestWriterThatIsNone(t *testing.T) {
	for _, w := range []*bits.Writer{nil, {}, new(bits.Writer)} {
		for _, n := range []int{0, 1, 64, -1, 65} {
			if e := w.Put(0, n); e != api.ErrNil {
				t.Errorf("Put(0, %d) = %d", n, int(e))
			}
			if e := w.Put(2, n); e != api.ErrNil {
				t.Errorf("Put(2, %d) = %d", n, int(e))
			}
		}
		if w.Len() != 0 || w.Text() != "" {
			t.Error(w.Len(), w.Text())
		}
	}
}

// P1.1, rules 4 and 5: a text that was told stays, asking changes nothing, and writers have nothing in common.
func TestTextStays(t *testing.T) {
	w, other := bits.NewWriter(), bits.NewWriter()
	w.Put(1, 3)
	other.Put(6, 3)
	told := w.Text()
	w.Put(0x1f, 5)
	w.Put(0xff, 8)
	if told != "\x20" {
		t.Errorf("%x", told)
	}
	holds(t, w, "0011111111111111")
	holds(t, w, "0011111111111111")
	holds(t, other, "110")
}
