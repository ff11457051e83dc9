package fields_test

import (
	"math"
	"strings"
	"testing"

	"kist/api"
	"kist/fields"
)

// P15.2
func TestTextByHand(t *testing.T) {
	wantText(t, "", 0, "", api.OK)
	wantText(t, "", 1, "\x00", api.OK)
	wantText(t, "", 8, noughts(8), api.OK)
	wantText(t, "a", 0, "", api.ErrField)
	wantText(t, "a", 1, "a", api.OK)
	wantText(t, "a", 2, "a\x00", api.OK)
	wantText(t, "ustar", 6, "ustar\x00", api.OK)
	wantText(t, "kist", 4, "kist", api.OK)
	wantText(t, "kist", 3, "", api.ErrField)
	wantText(t, "kist", 32, "kist"+noughts(28), api.OK)
	wantText(t, " ", 3, " \x00\x00", api.OK)
	wantText(t, "ä€", 7, "\xc3\xa4\xe2\x82\xac\x00\x00", api.OK)
	wantText(t, "ä€", 4, "", api.ErrField)
	for _, s := range []string{"\x00", "a\x00", "\x00a", "a\x00b", "\x00\x00", "ab\x00"} {
		wantText(t, s, 3, "", api.ErrField)
		wantText(t, s, 100, "", api.ErrField)
		wantText(t, s, 1, "", api.ErrField)
		wantText(t, s, 0, "", api.ErrField)
	}
}

// P15.2: a width that may not be is told ahead of a text that may not.
func TestTextOfWidths(t *testing.T) {
	for _, width := range []int{math.MinInt, -(1 << 32), -512, -2, -1, 513, 514, 1024, 1 << 20, 1<<32 + 8, 1 << 62, math.MaxInt} {
		for _, s := range []string{"", "a", "\x00", strings.Repeat("a", 512), strings.Repeat("a", 513), strings.Repeat("a", 2000), noughts(600)} {
			wantText(t, s, width, "", api.ErrArg)
		}
	}
	long := strings.Repeat("a", 512)
	wantText(t, long, 512, long, api.OK)
	wantText(t, long, 511, "", api.ErrField)
	wantText(t, long+"a", 512, "", api.ErrField)
	wantText(t, "", 512, noughts(512), api.OK)
	wantText(t, strings.Repeat("a", 1<<20), 512, "", api.ErrField)
}

// P15.2: each length in each width.
func TestTextAsTheModel(t *testing.T) {
	a := strings.Repeat("a", 520)
	for width := -3; width < 518; width++ {
		for n := max(0, width-3); n < width+3; n++ {
			likeText(t, a[:n], width)
		}
		for _, n := range []int{0, 1, 7, 31, 100, 155, 512} {
			likeText(t, a[:n], width)
		}
	}
	for _, s := range allTexts("\x00a \xff", 4) {
		for width := range 7 {
			likeText(t, s, width)
		}
	}
	for n := range 110 { // a byte 0 at each place
		for at := range n {
			likeText(t, a[:at]+"\x00"+a[at+1:n], 110)
			likeText(t, a[:at]+"\x00"+a[at+1:n], n)
		}
	}
}

// P15.2: each other byte than 0 may stand there.
func TestTextAndCutOfBytes(t *testing.T) {
	for v := range 256 {
		one := byteText(v)
		for _, s := range []string{one, one + one, "a" + one, one + "a", "a" + one + "a"} {
			likeText(t, s, 3)
			likeText(t, s, 2)
			wantCut(t, s, modelCut(s))
			if _, e := fields.Text(s, 3); (e == api.OK) != (v != 0) {
				t.Fatalf("Text(%q): %d", s, int(e))
			}
			if v != 0 {
				wantCut(t, s, s)
				wantCut(t, s+"\x00"+s, s)
			}
		}
	}
}

// P15.2
func TestCut(t *testing.T) {
	for s, want := range map[string]string{"": "", "a": "a", "\x00": "", "\x00a": "", "a\x00": "a", "a\x00b": "a", "a\x00\x00": "a", "\x00\x00": "", "a\x00b\x00c": "a", "ab\x00": "ab", " \x00": " ", " ": " ", "0\x00": "0", "\xff\x00\xff": "\xff", "ä\x00": "ä"} {
		wantCut(t, s, want)
	}
	for _, s := range allTexts("\x00a\xff", 7) {
		wantCut(t, s, modelCut(s))
	}
	long := strings.Repeat("a", 1<<20)
	wantCut(t, long, long)
	wantCut(t, long+"\x00"+long, long)
	wantCut(t, "\x00"+long, "")
	wantCut(t, noughts(1<<20), "")
}

// P15.5
func TestCutOfText(t *testing.T) {
	c := chain(154)
	l := allTexts("a \xff0", 4)
	for n := range 513 {
		l = append(l, c.text(n, "a", "b", "/", ".", "\x01", "\xff", "ä")[:n])
	}
	for _, s := range l {
		for _, width := range []int{len(s), len(s) + 1, len(s) + 2, 512} {
			if width > 512 {
				continue
			}
			f, e := fields.Text(s, width)
			if e != api.OK || len(f) != width {
				t.Fatalf("Text(%q, %d) = %q, %d", s, width, f, int(e))
			}
			wantCut(t, f, s)
		}
	}
}
