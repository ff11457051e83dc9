package rle_test

import (
	"strings"
	"testing"

	"kist/api"
	"kist/rle"
)

// apart is a text of n bytes, no two neighbours of which are one, so that it is its own RLE text; it ends in an x.
func apart(n int) string {
	s := strings.Repeat("yx", n/2+1)
	return s[len(s)-n:]
}

// want holds one answer of Decode against what it has to be; beside an error the text is empty.
func want(t *testing.T, s, text string, e api.Errno) {
	t.Helper()
	if v, got := rle.Decode(s); v != text || got != e {
		t.Errorf("%d bytes, ending in %q: %d bytes and %d, not %d and %d", len(s), s[max(0, len(s)-12):], len(v), int(got), len(text), int(e))
	}
}

// P3.2
func TestDecodeOfTheExamples(t *testing.T) {
	want(t, "aaaa", "", api.ErrRun)
	want(t, "aaaa\xff", strings.Repeat("a", 259), api.OK)
	want(t, "", "", api.OK)
	want(t, "aaaa\x01b", "aaaaab", api.OK)
}

// P3.2: each count, whatever stands behind it.
func TestDecodeOfEachCount(t *testing.T) {
	for c := range 256 {
		marked := "xxxx" + string([]byte{byte(c)})
		run := strings.Repeat("x", 4+c)
		want(t, marked, run, api.OK)
		want(t, "xa"+marked, "xa"+run, api.OK)
		want(t, marked+"a", run+"a", api.OK)
		want(t, marked+"xxx", run+"xxx", api.OK)
		want(t, marked+"xxxx", "", api.ErrRun)
		want(t, marked+marked, run+run, api.OK)
	}
}

// P3.2: neither the bytes ahead of a count nor the count itself are among the next four.
func TestDecodeCountsAnew(t *testing.T) {
	want(t, "aaaa\x00aaaa\x02", "aaaaaaaaaa", api.OK)
	want(t, "aaaa\x00a\x00", "aaaaa\x00", api.OK)
	want(t, "aaaa\x00aaa\x05", "aaaaaaa\x05", api.OK)
	want(t, "aaaaaaaa", strings.Repeat("a", 4+97+3), api.OK)
	want(t, "aaaaaaaaa", "", api.ErrRun)
	want(t, strings.Repeat("\x00", 8), strings.Repeat("\x00", 7), api.OK)
	want(t, strings.Repeat("\x00", 9), "", api.ErrRun)
	want(t, "aaaabbbb\x01", strings.Repeat("a", 4+98)+"bbb\x01", api.OK)
	want(t, "aaaabbbbb\x01", strings.Repeat("a", 4+98)+"bbbbb", api.OK)
	want(t, "aaabaaabaaaa\x00", "aaabaaabaaaa", api.OK)
}

// P3.2
func TestDecodeAsTheModel(t *testing.T) {
	l := append(texts(), allTexts("ab", 13)...)
	l = append(l, allTexts("\x00\x01a\xff", 7)...)
	for _, s := range l {
		v, e := rle.Decode(s)
		if m, em := modelDecode(s); v != m || e != em {
			t.Fatalf("Decode(%q) = %q, %d, not %q, %d", s, v, int(e), m, int(em))
		}
	}
}

// P3.2: a text that ends where a count must stand, however it came there.
func TestDecodeOfTextsCutShort(t *testing.T) {
	for _, s := range texts() {
		whole := rle.Encode(s)
		for n := max(0, len(whole)-300); n <= len(whole); n++ {
			v, e := rle.Decode(whole[:n])
			if m, em := modelDecode(whole[:n]); v != m || e != em {
				t.Fatalf("%q: %d", whole[:n], int(e))
			}
		}
	}
	for _, b := range []string{"\x00", "a", "\xff"} {
		want(t, strings.Repeat(b, 4), "", api.ErrRun)
		want(t, "kist"+strings.Repeat(b, 4), "", api.ErrRun)
	}
}

// P3.2: as much as there may be, and one more.
func TestDecodeAtTheLimit(t *testing.T) {
	for n := api.MaxText - 5; n < api.MaxText+5; n++ {
		e := api.OK
		text := apart(n)
		if n > api.MaxText {
			e, text = api.ErrBig, ""
		}
		want(t, apart(n), text, e)
	}
	for _, c := range []int{0, 1, 2, 3, 4, 97, 98, 251, 252, 254, 255} {
		marked := "aaaa" + string([]byte{byte(c)})
		run := strings.Repeat("a", 4+c)
		head := apart(api.MaxText - 4 - c)
		want(t, head+marked, head+run, api.OK)
		want(t, "z"+head+marked, "", api.ErrBig)
		want(t, head+marked+"b", "", api.ErrBig)
		want(t, head[1:]+marked+"b", head[1:]+run+"b", api.OK)
		want(t, head[1:]+marked+"aa", "", api.ErrBig)
	}
}

// P3.2: of two errors the one that comes first from the left on.
func TestDecodeOfTwoErrors(t *testing.T) {
	want(t, apart(api.MaxText-4)+"aaaa", "", api.ErrRun)
	for n := range 4 {
		want(t, apart(api.MaxText-n)+"aaaa", "", api.ErrBig)
		want(t, apart(api.MaxText-n)+"aaaa\x00", "", api.ErrBig)
	}
	want(t, apart(api.MaxText-4)+"aaaa\x00b", "", api.ErrBig)
	want(t, apart(api.MaxText-4)+"aaaa\x00", apart(api.MaxText-4)+"aaaa", api.OK)
	want(t, apart(api.MaxText-4)+"aaaa\x01bbbb", "", api.ErrBig)
	want(t, apart(api.MaxText+1)+"aaaa", "", api.ErrBig)
	want(t, strings.Repeat("aaaa\xff", 1012)+"aaaa\x1caaaa", "", api.ErrRun)
	want(t, strings.Repeat("aaaa\xff", 1012)+"aaaa\x1daaaa", "", api.ErrBig)
	want(t, strings.Repeat("aaaa\xff", 1013), "", api.ErrBig)
}

// P3.2: what is far too long is refused, too.
func TestDecodeOfLongTexts(t *testing.T) {
	want(t, strings.Repeat("aaaa\xff", 1<<22), "", api.ErrBig)
	want(t, strings.Repeat("abc", 1<<23), "", api.ErrBig)
	want(t, strings.Repeat("a", 1<<24), "", api.ErrBig)
}

// P3.4
func TestDecodeOfEncode(t *testing.T) {
	for _, s := range append(texts(), allTexts("ab", 12)...) {
		if v, e := rle.Decode(rle.Encode(s)); v != s || e != api.OK {
			t.Fatalf("%q: %q, %d", s, v, int(e))
		}
	}
	for k := range 1100 {
		s := "a" + strings.Repeat("x", k) + "\xfb"
		if v, e := rle.Decode(rle.Encode(s)); v != s || e != api.OK {
			t.Fatal(k, len(v), int(e))
		}
	}
}

// P3.4: texts of MaxText bytes come back; those of one more can't.
func TestDecodeOfEncodeAtTheLimit(t *testing.T) {
	c := chain(34)
	mixed := c.runs(10000)
	for _, s := range []string{strings.Repeat("\x00", api.MaxText), strings.Repeat("aaaab", api.MaxText)[:api.MaxText], strings.Repeat("aaaabbbb", api.MaxText)[:api.MaxText], apart(api.MaxText), mixed[:api.MaxText]} {
		want(t, rle.Encode(s), s, api.OK)
		want(t, rle.Encode(s+"q"), "", api.ErrBig)
		want(t, rle.Encode(s+s[len(s)-1:]), "", api.ErrBig)
	}
}

// P3.1, P3.2: each answer hangs on its argument alone (rules 4 and 5).
func TestAnswersAgain(t *testing.T) {
	b := []byte(rle.Encode(sample))
	first, e := rle.Decode(string(b))
	if first != sample || e != api.OK {
		t.Fatal(int(e))
	}
	rle.Decode("aaaa")
	rle.Encode("zzzzz")
	clear(b)
	if again, e := rle.Decode(rle.Encode(sample)); again != first || e != api.OK || rle.Encode(sample) != modelEncode(sample) {
		t.Error(len(again), int(e))
	}
}
