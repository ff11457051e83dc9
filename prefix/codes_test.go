package prefix_test

import (
	"slices"
	"strings"
	"testing"

	"kist/api"
	"kist/bits"
	"kist/lengths"
	"kist/prefix"
)

// wantCodes tells what Codes answers against what it should.
func wantCodes(t *testing.T, l, want []int, wantE api.Errno) {
	t.Helper()
	if codes, e := prefix.Codes(l); !slices.Equal(codes, want) || e != wantE {
		t.Fatalf("Codes(%v) = %v, %d, not %v, %d", l, codes, int(e), want, int(wantE))
	}
}

// wantEncode tells what Encode answers against what it should.
func wantEncode(t *testing.T, l, list []int, want api.Bits, wantE api.Errno) {
	t.Helper()
	if b, e := prefix.Encode(l, list); b != want || e != wantE {
		t.Fatalf("Encode(%v; %.200v) = %d bits %.60x, %d, not %d bits %.60x, %d", l, list, b.N, b.Text, int(e), want.N, want.Text, int(wantE))
	}
}

// P9.1
func TestCodesOfTheExample(t *testing.T) {
	wantCodes(t, []int{2, 1, 3, 3}, []int{2, 0, 6, 7}, api.OK)
}

// P9.1: those of one length by their numbers, a longer one with 0 bits behind.
func TestCodesInOrder(t *testing.T) {
	wantCodes(t, []int{1, 1}, []int{0, 1}, api.OK)
	wantCodes(t, []int{3, 3}, []int{0, 1}, api.OK)
	wantCodes(t, []int{1, 3}, []int{0, 4}, api.OK)
	wantCodes(t, []int{3, 1}, []int{4, 0}, api.OK)
	wantCodes(t, []int{20, 1}, []int{1 << 19, 0}, api.OK)
	wantCodes(t, []int{20, 20, 1}, []int{1 << 19, 1<<19 + 1, 0}, api.OK)
	wantCodes(t, []int{3, 2, 3, 2, 3, 3}, []int{4, 0, 5, 1, 6, 7}, api.OK)
	wantCodes(t, []int{4, 2, 4, 2, 2}, []int{12, 0, 13, 1, 2}, api.OK)
	wantCodes(t, []int{1, 2, 3, 4, 4}, []int{0, 2, 6, 14, 15}, api.OK)
	wantCodes(t, []int{4, 4, 3, 2, 1}, []int{14, 15, 6, 2, 0}, api.OK)
	var rising []int
	for s := range 258 {
		rising = append(rising, s)
	}
	wantCodes(t, slices.Repeat([]int{9}, 258), rising, api.OK)
	wantCodes(t, slices.Repeat([]int{20}, 258), rising, api.OK)
	wantCodes(t, slices.Repeat([]int{8}, 256), rising[:256], api.OK)
}

// P9.1
func TestCodesAsTheModel(t *testing.T) {
	for _, l := range someLengths() {
		var want []int
		for _, digits := range modelCodes(l) {
			want = append(want, number(digits))
		}
		wantCodes(t, l, want, api.OK)
	}
}

// P9.1, P9.2: lengths that may not be.
func TestCodesRefuse(t *testing.T) {
	for _, l := range wrongLengths() {
		wantCodes(t, l, nil, api.ErrLengths)
		for _, list := range [][]int{nil, {}, {0}, {0, 1}, {-1}, {1 << 40}} {
			wantEncode(t, l, list, api.Bits{}, api.ErrLengths)
		}
	}
	for n := 1; n <= 6; n++ {
		for _, l := range rows(0, 3, n) {
			codes, e := prefix.Codes(l)
			if want := modelCheck(l); want && (e != api.OK || len(codes) != n) || !want && (e != api.ErrLengths || codes != nil) {
				t.Fatalf("Codes(%v) = %v, %d", l, codes, int(e))
			}
		}
	}
}

// P9.2
func TestEncodeOfTheExample(t *testing.T) {
	wantEncode(t, []int{2, 1, 3, 3}, []int{0, 1, 2}, api.Bits{Text: "\x98", N: 6}, api.OK)
	wantEncode(t, []int{2, 1, 3, 3}, nil, api.Bits{}, api.OK)
	wantEncode(t, []int{2, 1, 3, 3}, []int{}, api.Bits{}, api.OK)
}

// P9.2
func TestEncodeAsBzip2(t *testing.T) {
	for _, b := range samples() {
		want, _ := bits.Slice(b.text, b.at, b.to-b.at)
		wantEncode(t, b.lengths, b.symbols, want, api.OK)
	}
}

// P9.2
func TestEncodeAsTheModel(t *testing.T) {
	c := chain(92)
	for _, l := range someLengths() {
		codes := modelCodes(l)
		for s := range l {
			wantEncode(t, l, []int{s}, piece(codes[s]), api.OK)
		}
		for _, n := range []int{2, 3, 8, 60} {
			list := c.list(n, len(l)-1)
			want, _ := modelEncode(codes, list)
			wantEncode(t, l, list, piece(want), api.OK)
		}
	}
	for _, l := range [][]int{{2, 1, 3, 3}, {2, 2, 2}, {20, 1}} {
		codes := modelCodes(l)
		for n := range 5 {
			for _, list := range rows(-1, len(l), n) {
				want, wantE := modelEncode(codes, list)
				wantEncode(t, l, list, piece(want), wantE)
			}
		}
	}
}

// P9.2: a symbol that there is no code of, wherever it stands.
func TestEncodeRefuses(t *testing.T) {
	for _, l := range someLengths() {
		high := len(l) - 1
		for _, s := range append(wrongNumbers(high), 259) {
			for _, list := range [][]int{{s}, {0, s}, {s, 0}, {high, 0, s, 1}, {s, s}, {s, -1}} {
				wantEncode(t, l, list, api.Bits{}, api.ErrSymbol)
			}
		}
	}
}

// P9.2: many symbols.
func TestEncodeOfLongLists(t *testing.T) {
	c := chain(93)
	l, _ := lengths.Make(c.list(258, 5000), 17)
	codes := modelCodes(l)
	list := c.list(1<<17+3, 257)
	var want strings.Builder
	for _, s := range list {
		want.WriteString(codes[s])
	}
	wantEncode(t, l, list, piece(want.String()), api.OK)
	wantEncode(t, []int{20, 20}, make([]int, 1<<20), api.Bits{Text: strings.Repeat("\x00", 20<<20/8), N: 20 << 20}, api.OK)
}

// P9.5
func TestNoCodeBeginsAnother(t *testing.T) {
	for _, l := range someLengths() {
		codes, e := prefix.Codes(l)
		if e != api.OK || len(codes) != len(l) {
			t.Fatal(l, codes, int(e))
		}
		for s, a := range codes {
			if a < 0 || a >= 1<<l[s] {
				t.Fatalf("lengths %v, codes %v: code %d of %d bits", l, codes, a, l[s])
			}
			for other, b := range codes {
				if other != s && l[s] <= l[other] && b>>(l[other]-l[s]) == a {
					t.Fatalf("lengths %v, codes %v: the code of %d begins that of %d", l, codes, s, other)
				}
			}
		}
	}
}

// Rule 4: what is handed in is not changed, nor its spare room; what is handed out is new. Rule 5: an answer does not hang on what was asked ahead of it.
func TestCodesAlone(t *testing.T) {
	room, list := []int{2, 1, 3, 3, 9, 9, 9}, []int{0, 1, 2, 8, 8, 8}
	for range 2 {
		wantEncode(t, room[:4], list[:3], api.Bits{Text: "\x98", N: 6}, api.OK)
		codes, _ := prefix.Codes(room[:4])
		if !slices.Equal(room, []int{2, 1, 3, 3, 9, 9, 9}) || !slices.Equal(list, []int{0, 1, 2, 8, 8, 8}) {
			t.Fatal(room, list)
		}
		clear(codes[:cap(codes)])
		wantCodes(t, []int{1, 1, 1}, nil, api.ErrLengths)
		wantCodes(t, []int{1, 2, 2}, []int{0, 2, 3}, api.OK)
		wantCodes(t, room[:4], []int{2, 0, 6, 7}, api.OK)
	}
	codes, _ := prefix.Codes(room[:4])
	clear(room)
	if want := []int{2, 0, 6, 7}; !slices.Equal(codes, want) {
		t.Error(codes)
	}
}
