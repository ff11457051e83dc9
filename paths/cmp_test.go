package paths_test

import (
	"slices"
	"strings"
	"testing"

	"kist/paths"
)

// P14.2
func TestCmpOfTheExamples(t *testing.T) {
	wantCmp(t, "a/b", "a.b", -1)
	wantCmp(t, "a", "a/b", -1)
}

// P14.2: a list that stands in order, each text held against each.
func TestCmpByHand(t *testing.T) {
	l := []string{"", "/", "//", "//a", "/a", "/a/", "\x00", "\x00/\xff", "\x00\x00", " ", " /a", "-", ".", "./a", "..", "0", "A", "a", "a/", "a//", "a//b", "a/\x00", "a/ ", "a/.", "a/b", "a/b/", "a/b/c", "a/b/c/d", "a/b/d", "a/b.c", "a/ba", "a/bb/a", "a/c", "a/\xff", "a\x00", "a\x00/a", "a ", "a-b", "a.b", "a.b/c", "a0", "aa", "aa/a", "ab", "b", "b/a", "\x7f", "\x80", "ä", "\xff", "\xff/", "\xff\x00"}
	for i, a := range l {
		for k, b := range l {
			switch {
			case i == k:
				wantCmp(t, a, b, 0)
			case i < k:
				wantCmp(t, a, b, -1)
			}
		}
	}
	mixed := slices.Clone(l)
	c := chain(142)
	for i := range mixed {
		k := i + c.next()%(len(mixed)-i)
		mixed[i], mixed[k] = mixed[k], mixed[i]
	}
	slices.SortFunc(mixed, paths.Cmp)
	if !slices.Equal(mixed, l) {
		t.Errorf("%q", mixed)
	}
}

// P14.2: each byte against each: it is the slash that ends a part, whatever stands on the other side.
func TestCmpOfBytes(t *testing.T) {
	for v := range 256 {
		for w := range 256 {
			a, b := byteText(v), byteText(w)
			wantCmp(t, a, b, modelCmp(a, b))
			wantCmp(t, "a"+a+"a", "a"+b+"a", modelCmp("a"+a+"a", "a"+b+"a"))
			if v != '/' && w != '/' {
				wantCmp(t, "a/"+a, "a/"+b, strings.Compare(a, b))
			}
		}
		if a := byteText(v); v != '/' {
			wantCmp(t, "a/\xff", "a"+a, -1)
			wantCmp(t, "a", "a"+a, -1)
			wantCmp(t, "a/", "a/"+a, -1)
		}
	}
}

// P14.2: all pairs of short texts, and mixed ones.
func TestCmpAsTheModel(t *testing.T) {
	for _, l := range [][]string{allTexts("/a.", 5), allTexts("/\x00\xff", 4), allTexts("/ab0", 4)} {
		for _, a := range l {
			for _, b := range l {
				if c := paths.Cmp(a, b); c != modelCmp(a, b) {
					t.Fatalf("Cmp(%q, %q) = %d", a, b, c)
				}
			}
		}
	}
	l := mixed()
	c := chain(143)
	for range 20000 {
		a, b := l[c.next()%len(l)], l[c.next()%len(l)]
		wantCmp(t, a, b, modelCmp(a, b))
		wantCmp(t, a+"/"+b, a+b, modelCmp(a+"/"+b, a+b))
		wantCmp(t, a+b, a, modelCmp(a+b, a))
		wantCmp(t, b+"/"+a, b, 1)
		wantCmp(t, a, a, 0)
	}
}

// P14.2: texts far longer than a path, unlike at their ends alone.
func TestCmpOfLongTexts(t *testing.T) {
	for _, s := range []string{strings.Repeat("a/", 1<<20), strings.Repeat("/", 1<<20), strings.Repeat("a", 1<<20), strings.Repeat("b", 1<<20) + "/"} {
		wantCmp(t, s, s, 0)
		wantCmp(t, s+"a", s+"b", -1)
		wantCmp(t, s, s+"a", -1)
		wantCmp(t, s, s+"/", -1)
		wantCmp(t, s+"a/b", s+"a.b", -1)
		wantCmp(t, s+"a", s+"a/", -1)
	}
}

// P14.5: an order of all texts: two ways round it is turned, it goes through a third one, and just a text itself is the same.
func TestCmpIsAnOrder(t *testing.T) {
	for _, l := range [][]string{allTexts("/a.", 4), allTexts("/\x00\xff", 4)} {
		for _, a := range l {
			for _, b := range l {
				ab := paths.Cmp(a, b)
				if ab != -paths.Cmp(b, a) || (ab == 0) != (a == b) {
					t.Fatalf("%q, %q: %d", a, b, ab)
				}
				if ab > 0 {
					continue
				}
				for _, c := range l {
					if paths.Cmp(b, c) <= 0 && paths.Cmp(a, c) > 0 {
						t.Fatalf("%q, %q, %q", a, b, c)
					}
				}
			}
		}
	}
}

// P14.5: what is under a text stands behind it, and ahead of all behind it that is not.
func TestCmpOfWhatIsUnder(t *testing.T) {
	for _, l := range [][]string{allTexts("/a.", 5), allTexts("/\x00\xff", 4)} {
		slices.SortFunc(l, paths.Cmp)
		for i, p := range l {
			behind := l[i+1:]
			n := 0
			for n < len(behind) && paths.Under(p, behind[n]) {
				n++
			}
			for _, q := range behind[n:] {
				if paths.Under(p, q) {
					t.Fatalf("%q is under %q", q, p)
				}
			}
			for _, q := range l[:i+1] {
				if paths.Under(p, q) {
					t.Fatalf("%q is under %q", q, p)
				}
			}
		}
	}
}
