package delta_test

import (
	"slices"
	"strings"
	"testing"

	"kist/api"
	"kist/bits"
	"kist/delta"
)

// wantShow tells what Show answers against what it should.
func wantShow(t *testing.T, l []int, want api.Bits, wantE api.Errno) {
	t.Helper()
	if b, e := delta.Show(l); b != want || e != wantE {
		t.Fatalf("Show(%v) = %d bits %.60x, %d, not %d bits %.60x, %d", l, b.N, b.Text, int(e), want.N, want.Text, int(wantE))
	}
}

// P10.1
func TestShowOfTheExample(t *testing.T) {
	wantShow(t, []int{3, 4, 4, 2}, piece("00011 0 100 0 11110"), api.OK)
	wantShow(t, []int{3, 4, 4, 2}, api.Bits{Text: "\x1a\x3c", N: 15}, api.OK)
}

// P10.1: the first length from itself, each other one from the one ahead of it; the edges of a length and of how many there are.
func TestShowInSteps(t *testing.T) {
	wantShow(t, []int{1, 1}, piece("00001 0 0"), api.OK)
	wantShow(t, []int{20, 20}, piece("10100 0 0"), api.OK)
	wantShow(t, []int{1, 2}, piece("00001 0 100"), api.OK)
	wantShow(t, []int{2, 1}, piece("00010 0 110"), api.OK)
	wantShow(t, []int{20, 18, 19}, piece("10100 0 11110 100"), api.OK)
	wantShow(t, []int{1, 20, 1}, piece("00001 0"+strings.Repeat("10", 19)+"0"+strings.Repeat("11", 19)+"0"), api.OK)
	wantShow(t, []int{16, 17, 15, 16, 16}, piece("10000 0 100 11110 100 0"), api.OK)
	wantShow(t, slices.Repeat([]int{20}, 258), piece("10100"+strings.Repeat("0", 258)), api.OK)
	wantShow(t, append(slices.Repeat([]int{1}, 257), 2), piece("00001"+strings.Repeat("0", 257)+"100"), api.OK)
}

// P10.1
func TestShowAsBzip2(t *testing.T) {
	for _, b := range samples() {
		want, _ := bits.Slice(b.text, b.at, b.to-b.at)
		wantShow(t, b.lengths, want, api.OK)
	}
}

// P10.1
func TestShowAsTheModel(t *testing.T) {
	for _, l := range append(someLengths(), rows(0, 21, 3)...) {
		digits, e := modelShow(l)
		wantShow(t, l, piece(digits), e)
	}
}

// P10.1: too few, too many, and one that may not be, wherever it stands.
func TestShowRefuses(t *testing.T) {
	for _, l := range wrongLengths() {
		wantShow(t, l, api.Bits{}, api.ErrLengths)
	}
	for n := 2; n <= 258; n++ {
		for _, at := range []int{0, n / 2, n - 1} {
			for _, v := range []int{0, 21, -1} {
				l := slices.Repeat([]int{9}, n)
				l[at] = v
				wantShow(t, l, api.Bits{}, api.ErrLengths)
			}
		}
	}
}

// P10.4
func TestShowSizes(t *testing.T) {
	for _, l := range someLengths() {
		want := 5
		for s, k := range l {
			want++
			for other := k; s > 0 && other != l[s-1]; want += 2 {
				if other < l[s-1] {
					other++
				} else {
					other--
				}
			}
		}
		if b, e := delta.Show(l); b.N != want || len(b.Text) != (want+7)/8 || e != api.OK {
			t.Fatalf("Show(%v) has %d bits in %d bytes, not %d: %d", l, b.N, len(b.Text), want, int(e))
		}
	}
	for n := 2; n <= 258; n++ {
		if b, _ := delta.Show(slices.Repeat([]int{11}, n)); b.N != 5+n {
			t.Fatal(n, b.N)
		}
	}
	if b, _ := delta.Show(slices.Repeat([]int{1, 20}, 129)); b.N != 5+258+2*19*257 {
		t.Error(b.N)
	}
}

// Rule 4: what is handed in is not changed, nor its spare room. Rule 5: an answer does not hang on what was asked ahead of it.
func TestShowAlone(t *testing.T) {
	room := []int{3, 4, 4, 2, 9, 9, 9}
	for range 3 {
		wantShow(t, room[:4], api.Bits{Text: "\x1a\x3c", N: 15}, api.OK)
		wantShow(t, room[:1], api.Bits{}, api.ErrLengths)
		wantShow(t, []int{20, 21}, api.Bits{}, api.ErrLengths)
		wantShow(t, []int{1, 1}, piece("00001 0 0"), api.OK)
		if !slices.Equal(room, []int{3, 4, 4, 2, 9, 9, 9}) {
			t.Fatal(room)
		}
	}
}
