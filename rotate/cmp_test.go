package rotate_test

import (
	"strings"
	"testing"

	"kist/api"
	"kist/rotate"
)

// wantCmp holds one answer against what it should be.
func wantCmp(t *testing.T, s string, i, j, want int, wantE api.Errno) {
	t.Helper()
	if v, e := rotate.Cmp(s, i, j); v != want || e != wantE {
		t.Fatalf("Cmp of %d bytes (%.20q), %d, %d = %d, %d; not %d, %d", len(s), s, i, j, v, int(e), want, int(wantE))
	}
}

// P4.1
func TestCmpOfTheExample(t *testing.T) {
	wantCmp(t, "abab", 0, 2, 0, api.OK)
	wantCmp(t, "abab", 0, 1, -1, api.OK)
	wantCmp(t, "abab", 3, 2, 1, api.OK)
}

// P4.1: bytes are numbers from 0 to 255.
func TestCmpOfBytes(t *testing.T) {
	wantCmp(t, "\x7f\x80", 0, 1, -1, api.OK)
	wantCmp(t, "\xff\x00", 0, 1, 1, api.OK)
	wantCmp(t, "a\xe2\x82", 1, 0, 1, api.OK)
	s := bytes()
	for i := range 256 {
		for j := range 256 {
			want := 0
			if i != j {
				want = strings.Compare(s[i:i+1], s[j:j+1])
			}
			wantCmp(t, s, i, j, want, api.OK)
		}
	}
}

// P4.1: all pairs of rotations of many texts.
func TestCmpAsTheModel(t *testing.T) {
	for _, s := range append(allTexts("ab", 9), allTexts("abc", 6)...) {
		for i := range len(s) {
			for j := range len(s) {
				wantCmp(t, s, i, j, strings.Compare(spelled(s, i), spelled(s, j)), api.OK)
			}
		}
	}
	for _, s := range texts() {
		for i := 0; i < len(s); i += 1 + len(s)/40 {
			for j := 0; j < len(s); j += 1 + len(s)/37 {
				wantCmp(t, s, i, j, strings.Compare(spelled(s, i), spelled(s, j)), api.OK)
			}
		}
	}
}

// P4.1: texts that are unlike at their last byte alone, behind both bends.
func TestCmpAtTheLastByte(t *testing.T) {
	for n := 2; n < 60; n++ {
		s := strings.Repeat("a", n-1) + "b"
		for i := range n {
			for j := range n { // the b stands nearer at the rotation with the higher number
				want := 0
				if i > j {
					want = 1
				} else if i < j {
					want = -1
				}
				wantCmp(t, s, i, j, want, api.OK)
			}
		}
	}
}

// P4.1: numbers that are not there, on either side.
func TestCmpRefuses(t *testing.T) {
	for _, s := range []string{"", "a", "ab", "aaaa", "banana", bytes()} {
		for _, n := range wrongNumbers(len(s)) {
			wantCmp(t, s, n, n, 0, api.ErrArg)
			wantCmp(t, s, 0, n, 0, api.ErrArg)
			wantCmp(t, s, n, 0, 0, api.ErrArg)
			wantCmp(t, s, len(s)-1, n, 0, api.ErrArg)
			wantCmp(t, s, n, len(s)-1, 0, api.ErrArg)
			wantCmp(t, s, n, -1, 0, api.ErrArg)
		}
	}
	wantCmp(t, "", 0, 0, 0, api.ErrArg)
	wantCmp(t, "a", 0, 0, 0, api.OK)
	wantCmp(t, "a", 0, 1, 0, api.ErrArg)
	wantCmp(t, "ba", 0, 1, 1, api.OK)
	wantCmp(t, "ba", 0, 2, 0, api.ErrArg)
	wantCmp(t, "ba", 2, 0, 0, api.ErrArg)
}

// P4.1: rotations of a long text are compared where they stand: many calls make no copies of it.
func TestCmpOfLongTexts(t *testing.T) {
	c := chain(43)
	s := c.text(1<<22, bytes())
	for range 1 << 16 {
		i, j := c.next()%len(s), c.next()%len(s)
		want := strings.Compare(s[i:min(len(s), i+64)], s[j:min(len(s), j+64)])
		if min(len(s)-i, len(s)-j) < 64 || i == j {
			continue
		}
		wantCmp(t, s, i, j, want, api.OK)
	}
	same := strings.Repeat("ab", 1<<20)
	wantCmp(t, same, 1, len(same)-1, 0, api.OK)
	wantCmp(t, same, 2, len(same)-1, -1, api.OK)
	wantCmp(t, same+"a", 0, len(same), 1, api.OK)
}
