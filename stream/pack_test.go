package stream_test

import (
	"strings"
	"testing"

	"kist/api"
	"kist/crc"
	"kist/rle"
	"kist/stream"
)

// P13.1
func TestPackOfTheExample(t *testing.T) {
	wantPack(t, "", 1, 1, "BZh1\x17\x72\x45\x38\x50\x90\x00\x00\x00\x00", api.OK)
	wantPack(t, "", 9, 262144, "BZh9\x17\x72\x45\x38\x50\x90\x00\x00\x00\x00", api.OK)
}

// A block of one a, by hand (as block's tests have it): its sum, row 0, its symbol, a table 2 2 1 twice, and the symbols 1 and 2.
const (
	aSum   = "0001 1001 1001 0011 1001 1011 0110 1011"
	aTable = " 00010 0 0 11 0 "
	aUsed  = "0000 0010 0000 0000 0100 0000 0000 0000"
	aPlan  = "010 000000000000001 0" + aTable + aTable
	aRow   = "000000000000000000000000"
	aBlock = blockDigits + aSum + "0" + aRow + aUsed + aPlan + "10 0"
)

// P13.1: a stream's sum is its block's, or the first of two, turned by one bit, and the second.
func TestPackByHand(t *testing.T) {
	head := "01000010 01011010 01101000 "
	one := text(head + "00110001" + aBlock + endDigits + aSum)
	two := text(head + "00111001" + aBlock + aBlock + endDigits + "0010 1010 1011 0100 1010 1101 1011 1101")
	three := text(head + "00110011" + aBlock + aBlock + aBlock + endDigits + "0100 1100 1111 1010 1100 0000 0001 0001")
	wantPack(t, "a", 1, 1, one, api.OK)
	wantPack(t, "a", 1, 100000, one, api.OK)
	wantPack(t, "aa", 9, 1, two, api.OK)
	wantPack(t, "aaa", 3, 1, three, api.OK)
	wantTake(t, one, 0, "a", len(one), api.OK)
	wantTake(t, two, 0, "aa", len(two), api.OK)
	wantTake(t, three, 0, "aaa", len(three), api.OK)
}

// P13.1: what may be is told ahead of how long the text is.
func TestPackRefuses(t *testing.T) {
	for _, s := range []string{"", "a", "banana", flat(api.MaxText), flat(api.MaxText + 1)} {
		for _, level := range wrongLevels() {
			for _, most := range []int{1, 100000, 200000, 262144, 0, -1, 262145} {
				wantPack(t, s, level, most, "", api.ErrArg)
			}
		}
		for level := 1; level <= 9; level++ {
			for _, most := range wrongMosts(level) {
				wantPack(t, s, level, most, "", api.ErrArg)
			}
		}
	}
}

// P13.1: each level, each greatest most.
func TestPackAtEachLevel(t *testing.T) {
	for i, room := range rooms() {
		for _, most := range []int{1, 2, room - 1, room} {
			wantPack(t, "banana", i+1, most, modelPack("banana", i+1, most), api.OK)
		}
	}
}

// P13.1: the longest text, whose RLE text may be as long, or longer, or shorter; a byte more is too many, whatever its RLE text.
func TestPackAtTheLimit(t *testing.T) {
	const n = 262144
	for _, s := range []string{flat(n), strings.Repeat("aaaabbbb", n/8), strings.Repeat("a", n)} {
		for _, level := range []int{1, 2, 3, 9} {
			for _, most := range []int{20000, rooms()[level-1]} {
				packed := pack(t, s, level, most)
				wantUnpack(t, packed, s, api.OK)
				wantPack(t, s+"c", level, most, "", api.ErrBig)
				wantPack(t, s+s, level, most, "", api.ErrBig)
			}
		}
	}
	wantPack(t, strings.Repeat("a", 1<<24), 9, 1, "", api.ErrBig)
	wantPack(t, flat(n+1), 1, 1, "", api.ErrBig)
}

// P13.1
func TestPackAsTheModel(t *testing.T) {
	for _, s := range texts() {
		level := 1 + len(s)%9
		for _, most := range []int{1, 2, 3, 4, 5, 6, 7, 9, 10, 11, 50, 255, 256, len(s) + 1, rooms()[level-1]} {
			wantPack(t, s, level, most, modelPack(s, level, most), api.OK)
		}
	}
}

// P13.1: as much as an RLE text of most bytes tells, at each length of it.
func TestPackFits(t *testing.T) {
	c := chain(132)
	for _, s := range []string{strings.Repeat("a", 300), "xyz" + strings.Repeat("a", 300) + "xyz", c.runs(200, 9, "abc"), strings.Repeat("aaaab", 40), strings.Repeat("aaaabbbb", 20)} {
		for most := 1; most < 60; most++ {
			wantPack(t, s, 4, most, modelPack(s, 4, most), api.OK)
		}
	}
	// At level 1 blocks end where their RLE texts have 100000 bytes.
	for _, s := range []string{flat(100000), flat(100001), flat(200000), flat(200001), flat(250000)} {
		var l []string
		for rest := s; len(rest) > 0; rest = rest[min(len(rest), 100000):] {
			l = append(l, rest[:min(len(rest), 100000)])
		}
		wantPack(t, s, 1, 100000, ofTexts(1, l...).whole(), api.OK)
	}
}

// P13.1: many blocks.
func TestPackOfManyBlocks(t *testing.T) {
	c := chain(133)
	s := c.text(3000, "ab")
	wantPack(t, s, 5, 1, modelPack(s, 5, 1), api.OK)
	wantUnpack(t, modelPack(s, 5, 1), s, api.OK)
	s = flat(60000)
	packed := pack(t, s, 5, 1)
	wantUnpack(t, packed, s, api.OK)
}

// P13.1: what is filled up are 0 bits, however many they are.
func TestPackFillsUp(t *testing.T) {
	seen := [8]bool{}
	for _, s := range texts() {
		p := ofTexts(9, modelParts(s, 100)...)
		packed := pack(t, s, 9, 100)
		last := row(packed[len(packed)-1:])
		if !strings.HasSuffix(last, p.fill) || strings.Contains(p.fill, "1") {
			t.Fatalf("%.60q: %s, %s", s, last, p.fill)
		}
		seen[len(p.fill)] = true
	}
	for n, ok := range seen {
		if !ok {
			t.Error(n)
		}
	}
}

// P13.5
func TestPackIsSmall(t *testing.T) {
	c := chain(134)
	l := append(texts(), c.text(262144, all()), strings.Repeat(all(), 1024), flat(262144))
	for n := 1; n < 4000; n = n*5/4 + 1 {
		l = append(l, c.text(n, all()), strings.Repeat("\x00\x00\x00\x00\xff\xff\xff\xff", n))
	}
	for _, s := range l {
		n := len(rle.Encode(s))
		packed, e := stream.Pack(s, 9, max(1, n))
		if e != api.OK || len(packed) > len(s)+len(s)/2+600 {
			t.Fatalf("%d bytes %.60q: %d bytes, %d", len(s), s, len(packed), int(e))
		}
		if s != "" && packed != ofTexts(9, s).whole() { // it is one block indeed
			t.Fatalf("%d bytes %.60q", len(s), s)
		}
	}
}

// P13.1: the sum at a stream's end is that of its parts, not of the whole.
func TestPackSums(t *testing.T) {
	p := ofTexts(9, "ban", "ana")
	if want := crc.Stream(crc.Bzip("ban"), crc.Bzip("ana")); uint32(number(p.sum)) != want {
		t.Fatal(p.sum, want)
	}
	wantPack(t, "banana", 9, 3, p.whole(), api.OK)
}
