package bwt_test

import (
	"slices"
	"strings"
	"testing"

	"kist/api"
	"kist/bwt"
	"kist/rotate"
)

// P5.1
func TestForwardOfTheExample(t *testing.T) {
	if last, row, e := bwt.Forward("banana"); last != "nnbaaa" || row != 3 || e != api.OK {
		t.Error(last, row, int(e))
	}
}

// P5.1: what stands in blocks that bzip2 wrote.
func TestForwardAsBzip2(t *testing.T) {
	for _, c := range []struct {
		text, last string
		row        int
	}{
		{"mississippi", "pssmipissii", 4},
		{"kist", "ktis", 1},
		{"The quick brown fox jumps over the lazy dog", "kynxesergl i hhv otTu c uwd rfm ebp qjoooza", 8},
		{"abracadabra", "rdarcaaaabb", 2},
		{"to be or not to be, that is the question", "ootree,steh  bhbuttt  otti n oieao  sn q", 37},
		{"\xff\x00\x80\x7f\x00\xff\x01\x80", "\xff\x7f\xff\x80\x00\x01\x80\x00", 6},
		{"aaab", "baaa", 0},
		{"baaa", "baaa", 3},
		{"x", "x", 0},
		{"\x00\x00\x01", "\x01\x00\x00", 0},
	} {
		if last, row, e := bwt.Forward(c.text); last != c.last || row != c.row || e != api.OK {
			t.Errorf("Forward(%q) = %q, %d, %d", c.text, last, row, int(e))
		}
		if text, e := bwt.Back(c.last, c.row); text != c.text || e != api.OK {
			t.Errorf("Back(%q, %d) = %q, %d", c.last, c.row, text, int(e))
		}
	}
}

// P5.1: all short texts, and others.
func TestForwardAsTheModel(t *testing.T) {
	for _, s := range slices.Concat(allTexts("ab", 12)[1:], allTexts("abc", 7)[1:], allTexts("\x00\x7f\x80\xff", 4)[1:], texts()) {
		wantLast, wantRow := modelForward(s)
		if last, row, e := bwt.Forward(s); last != wantLast || row != wantRow || e != api.OK {
			t.Fatalf("Forward(%q) = %q, %d, %d, not %q, %d", s, last, row, int(e), wantLast, wantRow)
		}
	}
}

// P5.1: of rotations that are one text rotation 0 comes first.
func TestForwardOfOneTextTwice(t *testing.T) {
	for n := 1; n < 70; n++ {
		if last, row, e := bwt.Forward(strings.Repeat("z", n)); last != strings.Repeat("z", n) || row != 0 || e != api.OK {
			t.Error(n, last, row, int(e))
		}
		last, row, e := bwt.Forward(strings.Repeat("ba", n))
		if last != strings.Repeat("b", n)+strings.Repeat("a", n) || row != n || e != api.OK {
			t.Error(n, last, row, int(e))
		}
	}
}

// P5.1
func TestForwardOfNothing(t *testing.T) {
	if last, row, e := bwt.Forward(""); last != "" || row != 0 || e != api.ErrArg {
		t.Error(last, row, int(e))
	}
}

// P5.1, P5.3: as many bytes as may be, and one more.
func TestForwardAtTheLimit(t *testing.T) {
	for name, s := range long(api.MaxText) {
		last, row, e := bwt.Forward(s)
		if rank, _ := rotate.Rank(s, 0); row != rank || e != api.OK || len(last) != len(s) {
			t.Fatal(name, len(last), row, rank, int(e))
		}
		for at, i := range rotate.Order(s) {
			if last[at] != s[(i+len(s)-1)%len(s)] {
				t.Fatal(name, at)
			}
		}
		if back, e := bwt.Back(last, row); back != s || e != api.OK {
			t.Error(name, len(back), int(e))
		}
	}
	for _, n := range []int{api.MaxText + 1, api.MaxText + 2, 2 * api.MaxText, 1 << 24} {
		if last, row, e := bwt.Forward(strings.Repeat("x", n)); last != "" || row != 0 || e != api.ErrBig {
			t.Error(n, len(last), row, int(e))
		}
	}
}

// P5.4: all rotations have one last column, of the text's own bytes.
func TestOneColumn(t *testing.T) {
	for _, s := range slices.Concat(allTexts("ab", 8)[1:], allTexts("\x00\x80\xff", 5)[1:], texts()) {
		want, _, _ := bwt.Forward(s)
		if sortedBytes(want) != sortedBytes(s) {
			t.Fatalf("%q has %q", s, want)
		}
		for i := 0; i < len(s); i += 1 + len(s)/20 {
			if last, _, e := bwt.Forward(spelled(s, i)); last != want || e != api.OK {
				t.Fatalf("%q has %q, its rotation %d %q and %d", s, want, i, last, int(e))
			}
		}
	}
}

// Rule 5: an answer does not hang on what was asked ahead of it.
func TestForwardAgain(t *testing.T) {
	for range 3 {
		for _, s := range texts() {
			wantLast, wantRow := modelForward(s)
			bwt.Back(s, 0)
			bwt.Forward("")
			if last, row, e := bwt.Forward(s); last != wantLast || row != wantRow || e != api.OK {
				t.Fatalf("Forward(%q) = %q, %d, %d", s, last, row, int(e))
			}
		}
	}
}
