package bits_test

import (
	"math"
	"strings"
	"testing"

	"kist/api"
	"kist/bits"
)

// sample has every kind of byte edge: all ones, all noughts, single bits at either end, and bytes that are no UTF-8.
const sample = "\x00\xff\x80\x01\xa5\x7f\xfe\xc3\x28\x0f\xf0\x55"

// wrongCounts are whole numbers far outside of what any text here has.
func wrongCounts() []int {
	return []int{-1, -8, math.MinInt, math.MinInt + 1, math.MaxInt, math.MaxInt - 7, 1 << 62}
}

// row spells the bits of a text as digits, the model that the package is held against.
func row(text string) string {
	var b strings.Builder
	for i := range len(text) {
		for k := 7; k >= 0; k-- {
			b.WriteByte('0' + text[i]>>k&1)
		}
	}
	return b.String()
}

// digits spells the n lowest bits of v.
func digits(v uint64, n int) string {
	var b strings.Builder
	for k := n - 1; k >= 0; k-- {
		b.WriteByte('0' + byte(v>>k&1))
	}
	return b.String()
}

// number reads digits as digits spells them.
func number(row string) uint64 {
	v := uint64(0)
	for i := range len(row) {
		v = v<<1 | uint64(row[i]-'0')
	}
	return v
}

// piece makes the bits that a row spells.
func piece(row string) api.Bits {
	full := row + strings.Repeat("0", (8-len(row)%8)%8)
	var b strings.Builder
	for i := 0; i < len(full); i += 8 {
		b.WriteByte(byte(number(full[i : i+8])))
	}
	return api.Bits{Text: b.String(), N: len(row)}
}

// chain is a plain rule for numbers that look mixed, the same at each run.
type chain uint64

func (c *chain) next() uint64 {
	*c = *c*6364136223846793005 + 1442695040888963407
	return uint64(*c) ^ uint64(*c)>>29
}

// width is one from 0 to 64, narrow ones and the widest as often as others.
func (c *chain) width() int {
	switch c.next() >> 7 % 4 {
	case 0:
		return int(c.next() >> 7 % 9)
	case 1:
		return 64 - int(c.next()>>7%3)
	}
	return int(c.next() >> 7 % 65)
}

// low keeps the n lowest bits of v.
func low(v uint64, n int) uint64 {
	if n == 64 {
		return v
	}
	return v & (1<<n - 1)
}

// holds tells what a writer has against the row that it should have.
func holds(t *testing.T, w *bits.Writer, want string) {
	t.Helper()
	p := piece(want)
	if w.Len() != p.N || w.Text() != p.Text {
		t.Fatalf("writer: %d bits %x, not %d bits %x", w.Len(), w.Text(), p.N, p.Text)
	}
}

// stands tells where a reader is against where it should be.
func stands(t *testing.T, r *bits.Reader, text string, at int) {
	t.Helper()
	if r.At() != at || r.Left() != 8*len(text)-at {
		t.Fatalf("reader of %x: at %d, %d left, not at %d", text, r.At(), r.Left(), at)
	}
}
