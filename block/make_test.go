package block_test

import (
	"strings"
	"testing"

	"kist/api"
	"kist/block"
)

// aTable is a table of three lengths, 2 2 1.
const aTable = " 00010 0 0 11 0 "

// ofA is the block of a text of one a, by hand. Of the rows of 16 bytes that from 60 on (of 16) is in use, and there the second byte; Choose and Flat have one size.
func ofA() parts {
	return parts{
		mark:  markDigits,
		sum:   "0001 1001 1001 0011 1001 1011 0110 1011",
		mixed: "0",
		row:   strings.Repeat("0", 24),
		used:  "0000 0010 0000 0000 0100 0000 0000 0000",
		plan:  "010 000000000000001 0" + aTable + aTable,
		list:  "10 0",
	}
}

// ofBanana is that of banana: its last column is nnbaaa, in row 3; that is the places 2 0 2 2 0 0, and the symbols 3 0 3 3 1 4. They are dearer in the first table (15 but for 0 and 1), and the lengths of the second one, which is picked, are 3 3 3 1 3; no symbol picks the first.
func ofBanana() parts {
	return parts{
		mark:  markDigits,
		sum:   "1110 1111 1011 0110 1110 1100 0000 0001",
		mixed: "0",
		row:   strings.Repeat("0", 22) + "11",
		used:  "0000 0010 0000 0000 0110 0000 0000 0010",
		plan:  "010 000000000000001 10" + " 00011 0 0 11 0 0 0 " + " 00011 0 0 0 11 11 0 10 10 0 ",
		list:  "0 100 0 0 101 111",
	}
}

// P12.1
func TestMakeByHand(t *testing.T) {
	wantMake(t, "a", ofA().bits(), api.OK)
	wantMake(t, "banana", ofBanana().bits(), api.OK)
	if text := ofA().bits().Text[:17]; text != "\x31\x41\x59\x26\x53\x59\x19\x93\x9b\x6b\x00\x00\x00\x01\x00\x20\x00" {
		t.Errorf("%x", text)
	}
}

// P12.1: the sum is that of the text, and all else hangs on its RLE text: of five a that is four and a byte 1, which is in use, too.
func TestMakeOfARun(t *testing.T) {
	b, e := block.Make("aaaaa")
	if e != api.OK || b.N < headBits+48 {
		t.Fatal(b.N, int(e))
	}
	want := parts{
		mark:  markDigits,
		sum:   "0100 0100 1010 0100 0011 0000 0011 1101",
		mixed: "0",
		row:   strings.Repeat("0", 21) + "100", // all other rotations have the byte 1 earlier, and stand ahead
		used:  "1000 0010 0000 0000 0100 0000 0000 0000 0100 0000 0000 0000",
	}.whole()
	if got := digitsOf(b)[:headBits+48]; got != want {
		t.Errorf("%s, not %s", got, want)
	}
}

// P12.1
func TestMakeAsTheModel(t *testing.T) {
	for _, s := range texts() {
		want, e := modelMake(s)
		wantMake(t, s, want, e)
	}
}

// P12.1: what counts is how many bytes the RLE text has, not the text.
func TestMakeAtTheLimit(t *testing.T) {
	wantMake(t, "", api.Bits{}, api.ErrArg)
	for name, s := range atLimit(t) {
		b, e := block.Make(s)
		if e != api.OK || b.N < headBits {
			t.Fatal(name, b.N, int(e))
		}
		for _, more := range []string{"!", "!?", strings.Repeat("!", 4), s} {
			wantMake(t, s+more, api.Bits{}, api.ErrBig)
			wantMake(t, more+s, api.Bits{}, api.ErrBig)
		}
	}
	wantMake(t, strings.Repeat("ab", 1<<22), api.Bits{}, api.ErrBig)
	wantMake(t, strings.Repeat("a", 1<<24), api.Bits{}, api.ErrBig)
}

// P12.4
func TestMakeIsSmall(t *testing.T) {
	l := append(texts(), strings.Repeat(all(), 1024))
	c := chain(123)
	for n := 1; n < 4000; n = n*5/4 + 1 {
		l = append(l, c.text(n, all()), c.shorts(n, all()), strings.Repeat("\x00\x00\x00\x00\xff\xff\xff\xff", n)) // a four has a count behind it
		fours := ""
		for range n/8 + 1 {
			fours += strings.Repeat(c.text(1, all()), 4)
		}
		l = append(l, fours)
	}
	for _, s := range l {
		b, e := block.Make(s)
		if e != api.OK || b.N > 12*len(s)+4000 || len(b.Text) != (b.N+7)/8 {
			t.Fatalf("%d bytes %.60q: %d bits, %d bytes, %d", len(s), s, b.N, len(b.Text), int(e))
		}
	}
}
