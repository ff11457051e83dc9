package crc_test

import (
	"slices"
	"testing"

	"kist/crc"
)

// P2.4: each cut of a text in two, and in three.
func TestMoreOfParts(t *testing.T) {
	for _, r := range registers() {
		whole := crc.More(r, sample)
		for i := range len(sample) + 1 {
			if v := crc.More(crc.More(r, sample[:i]), sample[i:]); v != whole {
				t.Fatalf("from %08x, cut at %d: %08x, not %08x", r, i, v, whole)
			}
			for j := i; j <= len(sample); j++ {
				if v := crc.More(crc.More(crc.More(r, sample[:i]), sample[i:j]), sample[j:]); v != whole {
					t.Fatalf("from %08x, cut at %d and %d: %08x, not %08x", r, i, j, v, whole)
				}
			}
		}
	}
}

// P2.4: byte by byte, a text's sum comes out.
func TestMoreByteByByte(t *testing.T) {
	s := allBytes() + sample
	r := ^uint32(0)
	for i := range len(s) {
		r = crc.More(r, s[i:i+1])
		if ^r != crc.Bzip(s[:i+1]) {
			t.Fatalf("behind %d bytes: %08x", i+1, ^r)
		}
	}
}

// P2.5: of three texts of one length.
func TestSumsAreLinear(t *testing.T) {
	c := chain(26)
	for n := range 90 {
		x, y, z := c.text(n), c.text(n), c.text(n)
		all := both(x, y, z)
		if v := crc.Bzip(all); v != crc.Bzip(x)^crc.Bzip(y)^crc.Bzip(z) {
			t.Fatalf("Bzip of %x, %x, %x: %08x", x, y, z, v)
		}
		if v := crc.Ieee(all); v != crc.Ieee(x)^crc.Ieee(y)^crc.Ieee(z) {
			t.Fatalf("Ieee of %x, %x, %x: %08x", x, y, z, v)
		}
		r, p, q := c.next(), c.next(), c.next()
		if v := crc.More(r^p^q, all); v != crc.More(r, x)^crc.More(p, y)^crc.More(q, z) {
			t.Fatalf("More of %x, %x, %x: %08x", x, y, z, v)
		}
	}
}

// turn turns those bits of s that pattern has, from bit number at on; from the highest bit of each byte down, or from the lowest up.
func turn(s string, at int, pattern uint32, lowestFirst bool) string {
	out := []byte(s)
	for k := range 32 {
		place := at + k
		if pattern>>(31-k)&1 == 0 || place >= 8*len(s) {
			continue
		}
		if lowestFirst {
			out[place/8] ^= 1 << (place % 8)
		} else {
			out[place/8] ^= 0x80 >> (place % 8)
		}
	}
	return string(out)
}

// patterns are some of 32 bits: one, two side by side, the two ends, P itself and what it is turned round, all, and mixed ones.
func patterns() []uint32 {
	l := []uint32{0xffffffff, 0x80000001, 0x04c11db7, 0xedb88320, 0xdb710641, 0x82608edb, 0xaaaaaaaa, 0x55555555, 0xff000000, 0x000000ff}
	for k := range 32 {
		l = append(l, 1<<k, 0xc0000000>>k)
	}
	c := chain(27)
	for range 60 {
		l = append(l, c.next()|1)
	}
	return l
}

// P2.6: at each place of a text, each pattern, in the order of each sum.
func TestTurnedBitsAreTold(t *testing.T) {
	c := chain(28)
	s := c.text(14)
	bzip, ieee := crc.Bzip(s), crc.Ieee(s)
	for at := range 8 * len(s) {
		for _, p := range patterns() {
			if u := turn(s, at, p, false); u != s && crc.Bzip(u) == bzip {
				t.Fatalf("Bzip of %x and of %x", s, u)
			}
			if u := turn(s, at, p, true); u != s && crc.Ieee(u) == ieee {
				t.Fatalf("Ieee of %x and of %x", s, u)
			}
		}
	}
}

// P2.6: some of four bytes that stand together: both sums tell them.
func TestTurnedBytesAreTold(t *testing.T) {
	c := chain(29)
	s := c.text(12)
	bzip, ieee := crc.Bzip(s), crc.Ieee(s)
	for at := range len(s) - 3 {
		for _, p := range patterns() {
			u := turn(s, 8*at, p, false)
			if crc.Bzip(u) == bzip || crc.Ieee(u) == ieee {
				t.Fatalf("sums of %x and of %x", s, u)
			}
		}
	}
}

// P2.6: no two of the texts that differ in one window alone have one sum: 16 of its bits, all ways they may stand, each in one place or in two.
func TestWindowsHaveUnlikeSums(t *testing.T) {
	for _, spread := range []uint32{1, 1 << 3, 1 << 16, 1<<16 | 1} {
		var bzip, ieee []uint32
		for v := range uint32(1 << 16) {
			p := v * spread
			bzip = append(bzip, crc.Bzip(turn(sample, 37, p, false)))
			ieee = append(ieee, crc.Ieee(turn(sample, 37, p, true)))
		}
		for _, l := range [][]uint32{bzip, ieee} {
			slices.Sort(l)
			if n := len(slices.Compact(l)); n != 1<<16 {
				t.Errorf("spread %x: %d sums only", spread, n)
			}
		}
	}
}

// What sums are not: a window of 33 bits that is x^32 and P turns without being told. So P2.6's 32 is the edge, and P is the polynomial.
func TestThePolynomialItselfIsNotTold(t *testing.T) {
	s := "\x12\x34\x56\x78\x9a\xbc\xde\xf0"
	for at := range 8*len(s) - 32 {
		up := turn(turn(s, at, 1<<31, false), at+1, 0x04c11db7, false)
		if up == s || crc.Bzip(up) != crc.Bzip(s) {
			t.Errorf("Bzip at %d", at)
		}
		low := turn(turn(s, at, 1<<31, true), at+1, 0x04c11db7, true)
		if low == s || crc.Ieee(low) != crc.Ieee(s) {
			t.Errorf("Ieee at %d", at)
		}
	}
}
