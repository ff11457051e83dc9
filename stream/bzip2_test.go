package stream_test

import (
	"compress/bzip2"
	"encoding/base64"
	"io"
	"strings"
	"testing"

	"kist/api"
)

// P13.1: what was packed others read.
func TestOthersReadIt(t *testing.T) {
	c := chain(151)
	l := append(texts(), flat(262144), c.text(120000, "etaoin shrdlu"), c.runs(262144, 600, "abc"), strings.Repeat("aaaabbbb", 262144/8))
	last, lastPacked := "", pack(t, "", 1, 1)
	for _, s := range l {
		for _, most := range []int{1 + len(s)/7, 1 + len(s)/2, 100000} {
			packed := pack(t, s, 1+c.next()%9, min(most, 100000))
			got, err := io.ReadAll(bzip2.NewReader(strings.NewReader(lastPacked + packed)))
			if err != nil || string(got) != last+s {
				t.Fatalf("%d bytes %.60q: %d bytes, %v", len(s), s, len(got), err)
			}
			last, lastPacked = s, packed
		}
	}
}

// sample is what bzip2 wrote of a text.
type sample struct{ text, packed string }

func samples() []sample {
	l := []sample{
		{"", "QlpoORdyRThQkAAAAAA="},
		{"", "QlpoMRdyRThQkAAAAAA="},
		{"a", "QlpoNTFBWSZTWRmTm2sAAAABACAAIAAhGEaC7kinChIDMnNtYA=="},
		{strings.Repeat("kist keeps files; ", 14000), "QlpoMTFBWSZTWf2UZEoAgi6ZgEAAAAgDLEwAMACwEAMBNVT1BiEAMNyiJcKIl3KIlkoiWiiJelES3KIl9KIlqURLwoiWJREuclES+KIlkoiXUoiWFES0URL8xQVkmU1kGJ2bWAJfhmYBAAAAIAyxMADAAsBADATVUyaYhADDhREuyiJZKIlgoiW5REtSiJcKIl8URLZREvZREsUoiXCiJalESx2URLBREsyiJblES/MUFZJlNZg8eGpQBBZ5mAQAAACAMsTAAwALAQAwE1VNGmBADDZKRcJSL0lIsEpFolIskpFslIvyUi0SkXxKRYiUi2SkWSUi4SkXhKRYJSLRKRdF3JFOFCQedjaIgA=="},
		{strings.Repeat("aaaabbbbccccdddd", 16384), "QlpoMTFBWSZTWaM8RKgATh5BAEAAPAAgAJAZoApSZOqCo8IVG1BUdUFR4USVwhUbJElZUFRskSVlQVHSRJWVBUfMUFZJlNZzT2wcAB1LEEAQAA8ACAAkBmgClJk6oKj1QVGiFR1QVHpIkrqgqNFElYIVGyRJWVBUdJElZUFR8xQVkmU1nXePuHAJw6QQBAADwAIACQGaAKUmTqgqPVBUbUFRwhUekiSuqCo2SJKyoKjRRJWCFR0kSVlQVHzFBWSZTWcis4QIAM3FBAEAAPAAgAHAzQBSkyckpPJKTUlJ7klJqqgOSUnKqAxJSaqoDElJ0CBlJSfF3JFOFCQS0nyiwA=="},
		{strings.Repeat("a", 262144), "QlpoOTFBWSZTWQxaVGQAAgRBAMAAIAAACCAAMMwFSepxGAUGAeLuSKcKEgGLSoyA"},
		{"banana" + strings.Repeat("bandana", 20), "QlpoMzFBWSZTWe+27AEAAAGBADABIAAwzAx6iF4u5IpwoSHfbdgCQlpoORdyRThQkAAAAABCWmgxMUFZJlNZRbXH3gAAJ4EANAEgADDNNApUemJiYmJieE4XckU4UJBFtcfe"}, // three streams
	}
	for i := range l {
		l[i].packed = decoded(l[i].packed)
	}
	return l
}

func decoded(s string) string {
	text, _ := base64.StdEncoding.DecodeString(s)
	return string(text)
}

// P13.2, P13.3: what bzip2 wrote is read, whole, and in no part.
func TestUnpackOfBzip2(t *testing.T) {
	for _, s := range samples() {
		wantUnpack(t, s.packed, s.text, api.OK)
		if len(s.text) < 100000 {
			wantUnpack(t, s.packed+s.packed, s.text+s.text, api.OK)
		}
		step := 1 + len(s.text)/1000 // what is long is tried less often
		for n := 0; n < len(s.packed); n += step {
			want, e := modelUnpack(s.packed[:n])
			wantUnpack(t, s.packed[:n], want, e)
			if e != api.ErrShort && !strings.HasPrefix(s.packed[n:], "BZh") {
				t.Fatal(n, int(e))
			}
		}
		for at := 0; at < 8*len(s.packed); at += step {
			wrong := text(flipped(row(s.packed), at))
			want, e := modelUnpack(wrong)
			wantUnpack(t, wrong, want, e)
		}
	}
}

// P13.2: what it wrote of more than may be, in the text, or in the RLE text alone.
func TestUnpackOfTooMuchByBzip2(t *testing.T) {
	more := decoded("QlpoOTFBWSZTWXbLZA8AAgRBAKAAIAAACCAAMMwFSepxGAUGAeLuSKcKEg7ZbIHg") // of 262145 a
	refuse(t, more, api.ErrBig)
	fours := decoded("QlpoOTFBWSZTWYW7GuYA///BAEAAPAAgAJAZoAqQ0oABoABwABQADQACUAA4AAmAAHAAEwAAoABMAAPF3JFOFCQhbsa5gA==") // of the text in samples that has an RLE text of 327680 bytes, in one block
	refuse(t, fours, api.ErrBig)
}

// P13.1: of texts that bzip2 packs in one block a stream differs from what it wrote in the block's tables alone.
func TestPackIsFramedAsBzip2(t *testing.T) {
	for _, s := range samples() {
		if strings.Count(s.packed, "BZh") > 1 || len(s.packed) > 60 {
			continue
		}
		packed := pack(t, s.text, int(s.packed[3]-'0'), 100000)
		if n := min(len(packed), 14); packed[:n] != s.packed[:n] {
			t.Errorf("%x, not %x", packed[:n], s.packed[:n])
		}
	}
}
