package symbols_test

import (
	"encoding/hex"
	"math"
	"slices"
	"strings"
	"testing"

	"kist/api"
	"kist/bits"
	"kist/symbols"
)

// take tells what Take answers against what it should.
func take(t *testing.T, s string, at int, want string, wantEnd int, wantE api.Errno) {
	t.Helper()
	if v, end, e := symbols.Take(s, at); v != want || end != wantEnd || e != wantE {
		t.Fatalf("Take(%x, %d) = %q, %d, %d, not %q, %d, %d", s, at, v, end, int(e), want, wantEnd, int(wantE))
	}
}

// P6.3
func TestShowOfTheExample(t *testing.T) {
	if b, e := symbols.Show("a"); b != (api.Bits{Text: "\x02\x00\x40\x00", N: 32}) || e != api.OK {
		t.Errorf("%x, %d bits, %d", b.Text, b.N, int(e))
	}
	take(t, "\x02\x00\x40\x00", 0, "a", 32, api.OK)
	take(t, "\x00\x00", 0, "", 0, api.ErrSymbol)
}

// P6.3: the beginnings of streams that bzip2 wrote: the symbols stand from bit number 137 on.
func TestTakeAsBzip2(t *testing.T) {
	for _, c := range []struct {
		text, head string
		end        int
	}{
		{"banana", "425a6839314159265359efb6ec010000018100300120", 169},
		{"kist", "425a68393141592653592850524a000000818000280c0020", 185},
		{"mississippi", "425a6839314159265359154905d700000201800022480020", 185},
		{"The quick brown fox jumps over the lazy dog", "425a6839314159265359459dee610000041380400004003ffffff020", 217},
		{"to be or not to be, that is the question", "425a6839314159265359b128dcbe000012918040043261be0020", 201},
		{"\xff\x00\x80\x7f\x00\xff\x01\x80", "425a6839314159265359641eb4b100000340c0e0000000c0000000a0", 217},
		{"x", "425a6839314159265359774bb0140000000080004020", 169},
		{"\x00", "425a6839314159265359b1f7404b0000004000400020", 169},
		{"\xff", "425a6839314159265359000000ff00000000008000a0", 169},
		{"\x0f\x10\x1f\x20\xef\xf0", "425a683931415926535920f09dd800000070018000c000c0000000c00020", 233},
		{all(), "425a6839314159265359b6b5ee950000007" + strings.Repeat("f", 67) + "b0", 409},
	} {
		head, err := hex.DecodeString(c.head)
		if err != nil {
			t.Fatal(err)
		}
		take(t, string(head), 137, symbols.Of(c.text), c.end, api.OK)
		want, _ := bits.Slice(string(head), 137, c.end-137)
		if b, e := symbols.Show(symbols.Of(c.text)); b != want || e != api.OK {
			t.Errorf("%q: %x, %d bits, %d", c.text, b.Text, b.N, int(e))
		}
	}
}

// P6.3
func TestShowAsTheModel(t *testing.T) {
	for _, list := range someSymbols() {
		if b, e := symbols.Show(list); b != piece(modelShow(list)) || e != api.OK {
			t.Fatalf("Show(%q) = %x, %d bits, %d", list, b.Text, b.N, int(e))
		}
	}
	for _, list := range wrongSymbols() {
		if b, e := symbols.Show(list); b != (api.Bits{}) || e != api.ErrArg {
			t.Errorf("Show(%q) = %v, %d", list, b, int(e))
		}
	}
}

// P6.4: behind whatever bits, and with whatever bits behind.
func TestTakeOfShow(t *testing.T) {
	c := chain(64)
	for _, list := range someSymbols() {
		shown, _ := symbols.Show(list)
		for _, head := range []int{0, 1, 7, 8, 15, 16, 17, c.next() % 100} {
			ahead, _ := bits.Slice(c.text(20, all()), 0, head)
			behind, _ := bits.Slice(c.text(20, all()), 0, c.next()%100)
			whole, e := bits.Join(ahead, shown, behind)
			if e != api.OK {
				t.Fatal(int(e))
			}
			take(t, whole.Text, head, list, head+shown.N, api.OK)
		}
	}
}

// P6.3, P6.4: bits that end just behind the symbols, and each end that is too soon.
func TestTakeOfWhatIsCut(t *testing.T) {
	for _, list := range []string{"a", "\x00", "\xff", "\x00\xff", "ikst", "\x0f\x10\x1f\x20\xef\xf0", all()} {
		for at := range 17 {
			p := piece(strings.Repeat("1", at) + modelShow(list))
			take(t, p.Text, at, list, p.N, api.OK)
			for n := range (p.N + 7) / 8 {
				e := api.ErrShort
				if 8*n < at {
					e = api.ErrArg
				}
				take(t, p.Text[:n], at, "", 0, e)
			}
		}
	}
	take(t, "\x00\x00", 0, "", 0, api.ErrSymbol)
	for at := 1; at < 17; at++ {
		take(t, "\x00\x00", at, "", 0, api.ErrShort)
	}
}

// P6.3: bits of each kind, from each place.
func TestTakeAsTheModel(t *testing.T) {
	c := chain(65)
	kinds := []string{all(), "\x00\x01\x80", "\x00\x00\x00\x00\x00\x00\x01", "\x00", "\xff", "\x00\x00\x00\x40\xff\x80"}
	for range 40 {
		for _, letters := range kinds {
			s := c.text(c.next()%40, letters)
			digits := row(s)
			for at := -2; at < len(digits)+3; at++ {
				want, end, e := modelTake(digits, at)
				take(t, s, at, want, end, e)
			}
		}
	}
}

// P6.3: noughts for what is said to be there are no error where another byte is, and no byte at all is one only where all bits are there.
func TestTakeOfNoughts(t *testing.T) {
	take(t, "\x82\x00\x00\x00\x40\x00", 0, "a", 48, api.OK)
	take(t, "\x02\x01\x40\x00\x00\x00", 0, "a", 48, api.OK)
	take(t, "\xff\xff"+strings.Repeat("\x00", 31)+"\x01", 0, "\xff", 272, api.OK)
	take(t, "\xff\xff\x80\x00"+strings.Repeat("\x00", 30), 0, "\x00", 272, api.OK)
	take(t, "\xff\xff"+strings.Repeat("\x00", 32), 0, "", 0, api.ErrSymbol)
	take(t, "\xff\xff"+strings.Repeat("\x00", 31), 0, "", 0, api.ErrShort)
	take(t, "\x80\x00\x00\x00", 0, "", 0, api.ErrSymbol)
	take(t, "\x80\x00\x00", 0, "", 0, api.ErrShort)
	take(t, "\xc0\x00\x80\x00", 0, "", 0, api.ErrShort)
	take(t, "\x00\x00\xff\xff", 0, "", 0, api.ErrSymbol)
	take(t, "\x00\x00\xff\xff", 1, "", 0, api.ErrShort)
}

// P6.3: places that are not there, ahead of all else.
func TestTakeRefuses(t *testing.T) {
	good := "\x02\x00\x40\x00"
	for _, s := range []string{"", "\x00", good, good + good} {
		for _, at := range []int{-1, -2, -8, -32, 8*len(s) + 1, 8*len(s) + 8, 1 << 40, math.MaxInt, math.MaxInt - 31, math.MinInt, math.MinInt + 32, math.MaxInt32, math.MinInt32} {
			take(t, s, at, "", 0, api.ErrArg)
		}
		take(t, s, 8*len(s), "", 0, api.ErrShort)
	}
	take(t, good+good, 32, "a", 64, api.OK)
}

// P6.1, P6.3: each set of two bytes there and back.
func TestEachPair(t *testing.T) {
	for i := range 256 {
		for k := i + 1; k < 256; k++ {
			list := string([]byte{byte(i), byte(k)})
			b, e := symbols.Show(list)
			if e != api.OK || b != piece(modelShow(list)) {
				t.Fatalf("%d and %d: %x, %d bits, %d", i, k, b.Text, b.N, int(e))
			}
			take(t, b.Text, 0, list, b.N, api.OK)
			if symbols.Of(list[1:]+list) != list {
				t.Fatal(i, k)
			}
		}
	}
}

// Rule 5: an answer does not hang on what was asked ahead of it.
func TestShowAgain(t *testing.T) {
	for range 3 {
		for _, list := range slices.Concat(someSymbols()[:40], wrongSymbols()) {
			b, e := symbols.Show(list)
			symbols.Take("\xff\xff\x00", 0)
			symbols.Show("z")
			if again, eAgain := symbols.Show(list); again != b || eAgain != e {
				t.Fatalf("%q", list)
			}
		}
	}
}
