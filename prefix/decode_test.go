package prefix_test

import (
	"math"
	"slices"
	"strings"
	"testing"

	"kist/api"
	"kist/lengths"
	"kist/prefix"
)

// wantDecode tells what Decode answers against what it should.
func wantDecode(t *testing.T, l []int, s string, at, want, wantTo int, wantE api.Errno) {
	t.Helper()
	if symbol, to, e := prefix.Decode(l, s, at); symbol != want || to != wantTo || e != wantE {
		t.Fatalf("Decode(%v; %.60x from %d) = %d, %d, %d, not %d, %d, %d", l, s, at, symbol, to, int(e), want, wantTo, int(wantE))
	}
}

// wantAll tells what All answers against what it should.
func wantAll(t *testing.T, l []int, s string, at, n, end int, want []int, wantTo int, wantE api.Errno) {
	t.Helper()
	if list, to, e := prefix.All(l, s, at, n, end); !slices.Equal(list, want) || to != wantTo || e != wantE {
		t.Fatalf("All(%v; %.60x from %d; %d, %d) = %.200v, %d, %d, not %.200v, %d, %d", l, s, at, n, end, list, to, int(e), want, wantTo, int(wantE))
	}
}

// P9.3
func TestDecodeOfTheExamples(t *testing.T) {
	wantDecode(t, []int{2, 1, 3, 3}, "\x98", 3, 2, 6, api.OK)
	wantDecode(t, []int{2, 1, 3, 3}, "\x98", 0, 0, 2, api.OK)
	wantDecode(t, []int{2, 1, 3, 3}, "\x98", 2, 1, 3, api.OK)
	wantDecode(t, []int{2, 2}, "\x80", 0, 0, 0, api.ErrCode)
	wantDecode(t, []int{2, 2}, "", 0, 0, 0, api.ErrShort)
	wantDecode(t, []int{2, 2}, "\x80", 8, 0, 0, api.ErrShort)
}

// P9.3: the first bit with which no code begins is an error, though bits end ahead of the shortest code's length; bits that some code begins with and that end are another.
func TestDecodeOfTheFirstBit(t *testing.T) {
	wantDecode(t, []int{2, 2}, "\x01", 7, 0, 0, api.ErrCode)
	wantDecode(t, []int{2, 2}, "\x02", 7, 0, 0, api.ErrShort)
	wantDecode(t, []int{20, 20}, "\x01", 7, 0, 0, api.ErrCode)
	wantDecode(t, []int{20, 20}, "\x00", 0, 0, 0, api.ErrShort)
	wantDecode(t, []int{20, 20}, "\x00\x00\x00", 0, 0, 20, api.OK)
	wantDecode(t, []int{20, 20}, "\x00\x00\x10", 0, 1, 20, api.OK)
	wantDecode(t, []int{20, 20}, "\x00\x00\x20", 0, 0, 0, api.ErrCode)
	wantDecode(t, []int{20, 20}, "\x00\x01", 0, 0, 0, api.ErrCode)
	wantDecode(t, []int{20, 20}, "\x00\x00", 0, 0, 0, api.ErrShort)
	wantDecode(t, []int{1, 20}, "\xc0", 0, 0, 0, api.ErrCode)
	wantDecode(t, []int{1, 20}, "\x80", 0, 0, 0, api.ErrShort)
	wantDecode(t, []int{1, 20}, "\x80\x00\x00", 0, 1, 20, api.OK)
	wantDecode(t, []int{1, 20}, "\x80\x00\x10", 0, 0, 0, api.ErrCode)
	wantDecode(t, []int{2, 3}, "\x01", 6, 0, 0, api.ErrShort)
	wantDecode(t, []int{2, 3}, "\x06", 5, 0, 0, api.ErrCode)
	wantDecode(t, []int{2, 3}, "\x03", 5, 0, 0, api.ErrCode)
	wantDecode(t, []int{2, 3}, "\x02", 5, 1, 8, api.OK)
}

// P9.3: each row of bits behind each place, for all lengths that are short.
func TestDecodeOfAllBits(t *testing.T) {
	for _, l := range smallLengths() {
		codes := modelCodes(l)
		for v := range 256 {
			s := string([]byte{byte(v)})
			digits := row(s)
			for at := -1; at <= 9; at++ {
				want, wantTo, wantE := modelDecode(codes, digits, at)
				wantDecode(t, l, s, at, want, wantTo, wantE)
			}
		}
	}
}

// P9.3
func TestDecodeAsTheModel(t *testing.T) {
	c := chain(94)
	for _, l := range greatLengths() {
		codes := modelCodes(l)
		for s := range l {
			for ahead := range 8 {
				text := behindOf(strings.Repeat("1", ahead), piece(codes[s]))
				wantDecode(t, l, text, ahead, s, ahead+l[s], api.OK)
			}
			cut := piece(codes[s][:l[s]-1])
			want, wantTo, wantE := modelDecode(codes, row(cut.Text), 0)
			wantDecode(t, l, cut.Text, 0, want, wantTo, wantE)
		}
		for _, s := range []string{c.text(30), strings.Repeat("\xff", 6), strings.Repeat("\x00", 6)} {
			digits := row(s)
			for at := -2; at <= len(digits)+2; at++ {
				want, wantTo, wantE := modelDecode(codes, digits, at)
				wantDecode(t, l, s, at, want, wantTo, wantE)
			}
		}
	}
}

// P9.3, P9.4: lengths that may not be come first, then places that are not there.
func TestDecodeRefuses(t *testing.T) {
	for _, l := range wrongLengths() {
		for _, s := range []string{"", "\x98", "\xff\xff\xff"} {
			for _, at := range []int{0, 8 * len(s), -1, 25, math.MaxInt} {
				wantDecode(t, l, s, at, 0, 0, api.ErrLengths)
				for _, n := range []int{0, 1, -1, math.MaxInt} {
					wantAll(t, l, s, at, n, 1, nil, 0, api.ErrLengths)
				}
			}
		}
	}
	for _, s := range []string{"", "\x98", "\xff\xff\xff"} {
		for _, l := range [][]int{{1, 1}, {2, 2}, {2, 1, 3, 3}} {
			for _, at := range wrongNumbers(8 * len(s)) {
				wantDecode(t, l, s, at, 0, 0, api.ErrArg)
				for _, n := range []int{0, 1, 2, -1, math.MaxInt, math.MinInt} {
					wantAll(t, l, s, at, n, 0, nil, 0, api.ErrArg)
				}
			}
			for at := 0; at <= 8*len(s); at++ {
				wantAll(t, l, s, at, 0, 0, nil, at, api.OK)
				for _, n := range []int{-1, -2, -8, -1 << 32, -1<<32 + 1, math.MinInt, math.MinInt + 1} {
					wantAll(t, l, s, at, n, 0, nil, 0, api.ErrArg)
				}
			}
		}
	}
}

// P9.4
func TestAllOfTheExample(t *testing.T) {
	l := []int{2, 1, 3, 3}
	wantAll(t, l, "\x98", 0, 3, -1, []int{0, 1, 2}, 6, api.OK)
	wantAll(t, l, "\x98", 0, 5, -1, []int{0, 1, 2, 1, 1}, 8, api.OK)
	wantAll(t, l, "\x98", 0, 6, -1, nil, 0, api.ErrShort)
	wantAll(t, l, "\x98", 0, 6, 2, []int{0, 1, 2}, 6, api.OK)
	wantAll(t, l, "\x98", 0, 3, 2, []int{0, 1, 2}, 6, api.OK)
	wantAll(t, l, "\x98", 0, 2, 2, []int{0, 1}, 3, api.OK)
	wantAll(t, l, "\x98", 0, 6, 0, []int{0}, 2, api.OK)
	wantAll(t, l, "\x98", 2, 6, 1, []int{1}, 3, api.OK)
	wantAll(t, l, "\x98", 3, 6, 1, []int{2, 1}, 7, api.OK)
	wantAll(t, l, "\x98", 3, math.MaxInt, 1, []int{2, 1}, 7, api.OK)
	wantAll(t, l, "\x98", 3, math.MaxInt, 3, nil, 0, api.ErrShort)
	wantAll(t, l, "\x98", 0, 0, 0, nil, 0, api.OK)
	wantAll(t, l, "\x98", 8, 0, 0, nil, 8, api.OK)
	wantAll(t, l, "\x98", 8, 1, 0, nil, 0, api.ErrShort)
}

// P9.4: what stands behind the symbols that were asked for is not looked at; among them the first error counts.
func TestAllOfTheFirstError(t *testing.T) {
	l := []int{2, 2}
	wantAll(t, l, "\x1c", 0, 2, -1, []int{0, 1}, 4, api.OK)
	wantAll(t, l, "\x1c", 0, 3, -1, nil, 0, api.ErrCode)
	wantAll(t, l, "\x1c", 0, 3, 1, []int{0, 1}, 4, api.OK)
	wantAll(t, l, "\x1c", 0, 9, 0, []int{0}, 2, api.OK)
	wantAll(t, l, "\x11", 0, 4, -1, []int{0, 1, 0, 1}, 8, api.OK)
	wantAll(t, l, "\x11", 0, 5, -1, nil, 0, api.ErrShort)
	wantAll(t, l, "\x11", 1, 9, -1, nil, 0, api.ErrCode)
	wantAll(t, l, "\x10", 7, 9, -1, nil, 0, api.ErrShort)
	wantAll(t, l, "\x80", 0, math.MaxInt, 0, nil, 0, api.ErrCode)
}

// P9.4
func TestAllAsBzip2(t *testing.T) {
	for _, b := range samples() {
		for _, n := range []int{len(b.symbols), len(b.symbols) - 1, 1} {
			codes := modelCodes(b.lengths)
			ahead, _ := modelEncode(codes, b.symbols[:n])
			wantAll(t, b.lengths, b.text, b.at, n, -1, b.symbols[:n], b.at+len(ahead), api.OK)
		}
		if last := len(b.lengths) - 1; b.symbols[len(b.symbols)-1] == last {
			wantAll(t, b.lengths, b.text, b.at, 50, last, b.symbols, b.to, api.OK)
		}
	}
}

// P9.4: each n, place and end of short rows.
func TestAllAsTheModel(t *testing.T) {
	c := chain(95)
	for _, l := range [][]int{{1, 1}, {2, 1, 3, 3}, {2, 2}, {2, 2, 3}, {4, 1, 3}, {3, 2, 3, 2, 3, 3}, {1, 20}} {
		codes := modelCodes(l)
		for _, s := range []string{"", "\x00", "\xff", "\x98", "\x1b\x6d", c.text(2), c.text(3)} {
			digits := row(s)
			for at := -1; at <= len(digits)+1; at++ {
				for n := -1; n <= len(digits)+1; n++ {
					for end := -1; end <= len(l); end++ {
						want, wantTo, wantE := modelAll(codes, digits, at, n, end)
						wantAll(t, l, s, at, n, end, want, wantTo, wantE)
					}
				}
			}
		}
	}
	for _, l := range someLengths() {
		codes := modelCodes(l)
		for range 6 {
			s := c.text(c.next() % 40)
			digits, at, n, end := row(s), c.next()%9, c.next()%12, c.next()%len(l)
			want, wantTo, wantE := modelAll(codes, digits, at, n, end)
			wantAll(t, l, s, at, n, end, want, wantTo, wantE)
		}
	}
}

// P9.5: full lengths know each row of bits, and all others miss one.
func TestFullLengthsHaveNoErrCode(t *testing.T) {
	c := chain(96)
	full, others := 0, 0
	for _, l := range someLengths() {
		s := c.text(40)
		if !lengths.Full(l) {
			others++
			wantDecode(t, l, "\xff\xff\xff", 0, 0, 0, api.ErrCode)
			continue
		}
		full++
		for at := range 8 * len(s) {
			if _, _, e := prefix.Decode(l, s, at); e != api.OK && (e != api.ErrShort || 8*len(s)-at >= slices.Max(l)) {
				t.Fatal(l, at, int(e))
			}
		}
		for _, text := range []string{s, strings.Repeat("\xff", 40), strings.Repeat("\x00", 40)} {
			if _, _, e := prefix.All(l, text, 0, math.MaxInt, -1); e != api.ErrShort {
				t.Fatal(l, int(e))
			}
		}
	}
	if full < 40 || others < 40 {
		t.Error(full, others)
	}
}

// P9.6: behind whatever bytes, and behind bits that fill none.
func TestAllOfEncode(t *testing.T) {
	c := chain(97)
	for _, l := range someLengths() {
		for _, n := range []int{0, 1, 2, 50, 200} {
			list := c.list(n, len(l)-1)
			b, e := prefix.Encode(l, list)
			if e != api.OK {
				t.Fatal(l, list, int(e))
			}
			ahead := c.text(c.next() % 20)
			at := 8 * len(ahead)
			wantAll(t, l, ahead+b.Text, at, n, -1, list, at+b.N, api.OK)
			wantAll(t, l, ahead+b.Text+c.text(3), at, n, len(l), list, at+b.N, api.OK)
			at = c.next() % (at + 1)
			wantAll(t, l, behindOf(row(ahead)[:at], b), at, n, -1, list, at+b.N, api.OK)
			if n > 0 {
				first := list[:slices.Index(list, list[n-1])+1]
				ended, _ := prefix.Encode(l, first)
				wantAll(t, l, b.Text, 0, n, list[n-1], first, ended.N, api.OK)
			}
		}
	}
}

// P9.6: many symbols.
func TestAllOfLongLists(t *testing.T) {
	c := chain(98)
	made, _ := lengths.Make(c.list(258, 5000), 17)
	for _, l := range [][]int{made, {20, 20, 20}, {1, 2, 2}} {
		list := append(c.list(1<<18, len(l)-2), len(l)-1)
		b, _ := prefix.Encode(l, list)
		wantAll(t, l, b.Text, 0, len(list), -1, list, b.N, api.OK)
		wantAll(t, l, b.Text, 0, math.MaxInt, len(l)-1, list, b.N, api.OK)
	}
}

// Rule 4: what is handed in is not changed, nor its spare room; what is handed out is new. Rule 5: an answer does not hang on what was asked ahead of it.
func TestDecodeAlone(t *testing.T) {
	room := []int{2, 1, 3, 3, 9, 9}
	for range 2 {
		list, _, _ := prefix.All(room[:4], "\x98", 0, 3, -1)
		wantDecode(t, room[:4], "\x98", 3, 2, 6, api.OK)
		if !slices.Equal(room, []int{2, 1, 3, 3, 9, 9}) || !slices.Equal(list, []int{0, 1, 2}) {
			t.Fatal(room, list)
		}
		clear(list[:cap(list)])
		wantDecode(t, []int{1, 1}, "\x98", 3, 1, 4, api.OK)
		wantAll(t, room[:4], "\x98", 0, 3, -1, []int{0, 1, 2}, 6, api.OK)
	}
}
