package crc_test

import (
	"hash/crc32"
	"math"
	"slices"
	"strings"
	"testing"

	"kist/crc"
)

// sample has every kind of byte edge: noughts at both ends, all ones, single bits at either end, and bytes that are no UTF-8.
const sample = "\x00\x00\xff\x80\x01\xa5\x7f\xfe\xc3\x28\x0f\xf0\x55\xe2\x82\x00"

// allBytes is each byte once, in order.
func allBytes() string {
	var b []byte
	for v := range 256 {
		b = append(b, byte(v))
	}
	return string(b)
}

// texts are those that each sum is held against the model with.
func texts() []string {
	l := []string{"", "123456789", "kist", sample, allBytes(), strings.Repeat("\x00", 40), strings.Repeat("\xff", 40), "\xff\xff\xff\xff", "\xff\xff\xff\xff\x00"}
	for v := range 256 {
		one := string([]byte{byte(v)})
		l = append(l, one, one+"\x00", "\x00"+one, "ab"+one+"\x80")
	}
	c := chain(21)
	for n := range 70 {
		l = append(l, c.text(n))
	}
	return l
}

// registers are those that More is tried from.
func registers() []uint32 {
	l := []uint32{0, 1, math.MaxUint32, math.MaxUint32 - 1, 0x04c11db7, 0x82608edb, 0x00ffffff, 0xff000000}
	for k := range 32 {
		l = append(l, 1<<k)
	}
	c := chain(22)
	for range 20 {
		l = append(l, c.next())
	}
	return l
}

// P2.1, P2.2
func TestSumsOfTheExamples(t *testing.T) {
	if v := crc.Bzip("123456789"); v != 0xfc891918 {
		t.Errorf("%08x", v)
	}
	if v := crc.Ieee("123456789"); v != 0xcbf43926 {
		t.Errorf("%08x", v)
	}
	if crc.Bzip("") != 0 || crc.Ieee("") != 0 {
		t.Error(crc.Bzip(""), crc.Ieee(""))
	}
}

// P2.1: the sums of blocks that bzip2 wrote.
func TestBzipOfRealBlocks(t *testing.T) {
	sums := []struct {
		s    string
		want uint32
	}{
		{"hello, world", 0x42f7dd4a},
		{"The quick brown fox jumps over the lazy dog", 0x459dee61},
		{"kist", 0x2850524a},
		{allBytes(), 0xb6b5ee95},
	}
	for _, c := range sums {
		if v := crc.Bzip(c.s); v != c.want {
			t.Errorf("Bzip(%q) = %08x, not %08x", c.s, v, c.want)
		}
	}
}

// P2.1
func TestBzipOfManyTexts(t *testing.T) {
	for _, s := range texts() {
		if v := crc.Bzip(s); v != modelBzip(s) {
			t.Fatalf("Bzip(%x) = %08x, not %08x", s, v, modelBzip(s))
		}
		if v := ^crc.More(math.MaxUint32, s); v != crc.Bzip(s) {
			t.Fatalf("Bzip(%x) is not More of 32 ones, turned: %08x", s, v)
		}
	}
}

// P2.1: from any register, and of no text: that register.
func TestMoreFromManyRegisters(t *testing.T) {
	c := chain(23)
	for _, r := range registers() {
		for _, s := range []string{"", "\x00", "\x80", "\xff", "\x00\x00\x00\x00\x00", sample, c.text(9)} {
			if v := crc.More(r, s); v != modelMore(r, s) {
				t.Fatalf("More(%08x, %x) = %08x, not %08x", r, s, v, modelMore(r, s))
			}
		}
		if v := crc.More(r, ""); v != r {
			t.Fatalf("More(%08x, nothing) = %08x", r, v)
		}
	}
}

// P2.1: a byte at a time, each byte from each top of the register.
func TestMoreOfEachByteAtEachTop(t *testing.T) {
	for top := range uint32(256) {
		for v := range 256 {
			r, s := top<<24|0x00a5c3e1, string([]byte{byte(v)})
			if got := crc.More(r, s); got != modelMore(r, s) {
				t.Fatalf("More(%08x, %x) = %08x, not %08x", r, s, got, modelMore(r, s))
			}
		}
	}
}

// P2.2: as the words say it, and as the library's own sum of that kind has it.
func TestIeeeOfManyTexts(t *testing.T) {
	for _, s := range texts() {
		if v := crc.Ieee(s); v != modelIeee(s) || v != crc32.ChecksumIEEE([]byte(s)) {
			t.Fatalf("Ieee(%x) = %08x, not %08x", s, v, modelIeee(s))
		}
	}
}

// P2.3
func TestStreamOfTheExamples(t *testing.T) {
	if v := crc.Stream(1, 1); v != 3 {
		t.Errorf("%08x", v)
	}
	if v := crc.Stream(0x80000000, 0); v != 1 {
		t.Errorf("%08x", v)
	}
	if crc.Stream() != 0 || crc.Stream([]uint32{}...) != 0 || crc.Stream([]uint32(nil)...) != 0 {
		t.Error("of nothing")
	}
}

// P2.3: three blocks' sums and their stream's, as bzip2 wrote them.
func TestStreamOfRealBlocks(t *testing.T) {
	if v := crc.Stream(0xe6dac9ea, 0x9de1b2a6, 0xbd7371f2); v != 0x1ddb3314 {
		t.Errorf("%08x", v)
	}
}

// P2.3: each single bit goes round, one place a sum, and round again.
func TestStreamMovesEachBit(t *testing.T) {
	for k := range 32 {
		for behind := range 70 {
			l := make([]uint32, behind+1)
			l[0] = 1 << k
			if v := crc.Stream(l...); v != 1<<((k+behind)%32) {
				t.Fatalf("bit %d behind %d sums: %08x", k, behind, v)
			}
		}
	}
}

// P2.3, rule 4: lists of all lengths; a list that is handed in stays, its spare room too.
func TestStreamOfManySums(t *testing.T) {
	c := chain(24)
	for n := range 100 {
		room := make([]uint32, n+3)
		for i := range room {
			room[i] = c.next()
		}
		kept := slices.Clone(room)
		if v := crc.Stream(room[:n]...); v != modelStream(kept[:n]) {
			t.Fatalf("Stream(%x) = %08x, not %08x", kept[:n], v, modelStream(kept[:n]))
		}
		if !slices.Equal(room, kept) {
			t.Fatal("Stream changed its sums")
		}
	}
	if v := crc.Stream(0xdeadbeef); v != 0xdeadbeef {
		t.Errorf("of one: %08x", v)
	}
	if crc.Stream(1, 2) == crc.Stream(2, 1) {
		t.Error("the order is not told")
	}
}

// Long texts take a time that grows with their length alone, and no turn of the register is lost on the way.
func TestLongText(t *testing.T) {
	c := chain(25)
	s := strings.Repeat(c.text(1021), 4000)
	if v := crc.Ieee(s); v != crc32.ChecksumIEEE([]byte(s)) {
		t.Errorf("%08x", v)
	}
	cut := len(s) / 3
	if v := crc.More(crc.More(7, s[:cut]), s[cut:]); v != crc.More(7, s) {
		t.Errorf("%08x", v)
	}
}

// Rule 5: the same is answered whatever was asked ahead.
func TestSumsStandAlone(t *testing.T) {
	first := []uint32{crc.Bzip(sample), crc.Ieee(sample), crc.More(5, sample), crc.Stream(9, 8, 7)}
	crc.Ieee(allBytes())
	crc.More(0, "x")
	crc.Stream(math.MaxUint32)
	again := []uint32{crc.Bzip(sample), crc.Ieee(sample), crc.More(5, sample), crc.Stream(9, 8, 7)}
	if !slices.Equal(first, again) {
		t.Error(first, again)
	}
}
