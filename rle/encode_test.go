package rle_test

import (
	"encoding/hex"
	"strings"
	"testing"

	"kist/api"
	"kist/rle"
)

// P3.1
func TestEncodeOfTheExamples(t *testing.T) {
	examples := map[string]string{
		"aaaaab":                 "aaaa\x01b",
		"aaa":                    "aaa",
		strings.Repeat("a", 256): "aaaa\xfba",
		"":                       "",
		"aaaa":                   "aaaa\x00",
	}
	for s, want := range examples {
		if v := rle.Encode(s); v != want {
			t.Errorf("Encode(%q) = %q, not %q", s, v, want)
		}
	}
}

// P3.1: what bzip2 wrote ahead of all else, read back out of its blocks.
func TestEncodeAsInRealBlocks(t *testing.T) {
	blocks := []struct{ s, want string }{
		{strings.Repeat("a", 254), "61616161fa"},
		{strings.Repeat("a", 255), "61616161fb"},
		{strings.Repeat("a", 258), "61616161fb616161"},
		{strings.Repeat("a", 259), "61616161fb6161616100"},
		{strings.Repeat("a", 510), "61616161fb61616161fb"},
		{strings.Repeat("a", 511), "61616161fb61616161fb61"},
		{strings.Repeat("a", 1000), "61616161fb61616161fb61616161fb61616161e7"},
		{"aaaa" + strings.Repeat("b", 304) + "c" + strings.Repeat("\x00", 6), "616161610062626262fb626262622d630000000002"},
		{strings.Repeat("\xff", 263) + strings.Repeat("\xfb", 9) + "\x00\x00\x00\x00", "fffffffffbffffffff04fbfbfbfb050000000000"},
	}
	for _, b := range blocks {
		if v := hex.EncodeToString([]byte(rle.Encode(b.s))); v != b.want {
			t.Errorf("%d bytes: %s, not %s", len(b.s), v, b.want)
		}
	}
}

// P3.1: a run of each length, alone and between others.
func TestEncodeOfEachRun(t *testing.T) {
	for k := range 1100 {
		run := strings.Repeat("x", k)
		for _, s := range []string{run, "a" + run, run + "a", "xa" + run + "\xffx", "yyyy" + run + "yyyy"} {
			if v := rle.Encode(s); v != modelEncode(s) {
				t.Fatalf("%d: %q", k, v)
			}
		}
	}
}

// P3.1
func TestEncodeAsTheModel(t *testing.T) {
	for _, s := range append(texts(), allTexts("ab", 12)...) {
		if v := rle.Encode(s); v != modelEncode(s) {
			t.Fatalf("Encode(%q) = %q", s, v)
		}
	}
}

// P3.1: Encode has no limit of its own.
func TestEncodeOfLongTexts(t *testing.T) {
	const many = api.MaxText / 2
	if v := rle.Encode(strings.Repeat("z", 255*many)); v != strings.Repeat("zzzz\xfb", many) {
		t.Error(len(v))
	}
	if s := strings.Repeat("abc", many); rle.Encode(s) != s {
		t.Error("a text without runs")
	}
	if v := rle.Encode(strings.Repeat("aaaab", many)); v != strings.Repeat("aaaa\x00b", many) {
		t.Error(len(v))
	}
}

// P3.5
func TestLengthsOfEncode(t *testing.T) {
	for _, s := range append(texts(), allTexts("ab", 10)...) {
		n := len(rle.Encode(s))
		if 4*n > 5*len(s) {
			t.Fatalf("%d bytes of %q", n, s)
		}
		for _, more := range []string{"a", "b", "\x00", "\xfb", s[max(0, len(s)-1):]} {
			if d := len(rle.Encode(s+more)) - n; len(more) == 1 && (d < 0 || d > 2) {
				t.Fatalf("%q and %q: %d more", s, more, d)
			}
		}
	}
}

// P3.5: the most that there can be, and each of the three steps.
func TestEdgesOfTheLengths(t *testing.T) {
	if n := len(rle.Encode(strings.Repeat("aaaabbbb", 1000))); n != 10000 {
		t.Error(n)
	}
	steps := map[int]int{0: 1, 2: 1, 3: 2, 4: 0, 254: 0, 255: 1, 257: 1, 258: 2, 259: 0}
	for k, want := range steps {
		if d := len(rle.Encode(strings.Repeat("a", k+1))) - len(rle.Encode(strings.Repeat("a", k))); d != want {
			t.Error(k, d)
		}
	}
}
