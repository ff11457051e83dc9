package paths_test

import (
	"slices"
	"strings"
	"testing"

	"kist/paths"
)

// P14.2
func TestPartsByHand(t *testing.T) {
	wantParts(t, "", "")
	wantParts(t, "a", "a")
	wantParts(t, "/", "", "")
	wantParts(t, "//", "", "", "")
	wantParts(t, "a/b", "a", "b")
	wantParts(t, "/a", "", "a")
	wantParts(t, "a/", "a", "")
	wantParts(t, "a//b", "a", "", "b")
	wantParts(t, "/a//b/./c/", "", "a", "", "b", ".", "c", "")
	wantParts(t, "../.", "..", ".")
	wantParts(t, "\x00/\xff\xfe/ä", "\x00", "\xff\xfe", "ä")
	wantParts(t, "a\\b", "a\\b")
}

// P14.2: of any texts.
func TestPartsAsTheModel(t *testing.T) {
	for _, s := range append(allTexts("/.a", 8), mixed()...) {
		wantParts(t, s, modelParts(s)...)
	}
	for v := range 256 {
		for _, s := range []string{byteText(v), "a" + byteText(v) + "b", byteText(v) + byteText(v), "/" + byteText(v), byteText(v) + "/"} {
			wantParts(t, s, modelParts(s)...)
		}
	}
}

// P14.2: also with more parts and bytes than a path may have.
func TestPartsOfLongTexts(t *testing.T) {
	wantParts(t, strings.Repeat("a", 1<<20), strings.Repeat("a", 1<<20))
	for _, part := range []string{"", ".", "a", strings.Repeat("ab", 200)} {
		s := strings.Repeat(part+"/", 1<<14)
		wantParts(t, s, append(slices.Repeat([]string{part}, 1<<14), "")...)
		wantParts(t, s+"b", append(slices.Repeat([]string{part}, 1<<14), "b")...)
	}
}

// Rule 4: what is handed out is new. Rule 5: an answer does not hang on what was asked ahead of it.
func TestPartsAlone(t *testing.T) {
	const p = "a/b//c"
	first, second := paths.Parts(p), paths.Parts(p)
	clear(first)
	if want := []string{"a", "b", "", "c"}; !slices.Equal(second, want) {
		t.Error(second)
	}
	_ = append(second[:1], "x", "x", "x")
	wantParts(t, p, "a", "b", "", "c")
}
