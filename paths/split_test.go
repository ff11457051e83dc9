package paths_test

import (
	"strings"
	"testing"

	"kist/paths"
)

// P14.3
func TestSplitOfTheExamples(t *testing.T) {
	a, b := strings.Repeat("a", 60), strings.Repeat("b", 60)
	wantSplit(t, a+"/"+b, pair{a, b, true})
	wantSplit(t, strings.Repeat("a", 101), pair{})
}

// P14.3: up to 100 bytes all is behind, slashes or none.
func TestSplitOfShortTexts(t *testing.T) {
	for _, s := range allTexts("/a", 10) {
		wantSplit(t, s, pair{"", s, true})
	}
	for n := range 101 {
		for _, piece := range []string{"a", "/", "a/", "/a", "\x00", "\xff/"} {
			s := strings.Repeat(piece, n)[:n]
			wantSplit(t, s, pair{"", s, true})
		}
	}
}

// P14.3: the edges on both sides.
func TestSplitAtTheEdges(t *testing.T) {
	a, b := strings.Repeat("a", 300), strings.Repeat("b", 300)
	for _, c := range []struct {
		ahead, behind int
		ok            bool
	}{
		{1, 100, true}, {1, 99, true}, {1, 101, false}, {2, 100, true}, {0, 100, false}, {0, 101, false},
		{100, 1, true}, {100, 0, false}, {99, 1, true}, {101, 0, false}, {155, 0, false}, {155, 1, true}, {155, 100, true}, {155, 101, false},
		{154, 100, true}, {154, 101, false}, {156, 1, false}, {156, 100, false}, {156, 0, false}, {200, 100, false}, {155, 300, false},
	} {
		ahead, behind := a[:c.ahead], b[:c.behind]
		want := pair{}
		if c.ahead+1+c.behind <= 100 {
			want = pair{"", ahead + "/" + behind, true}
		} else if c.ok {
			want = pair{ahead, behind, true}
		}
		wantSplit(t, ahead+"/"+behind, want)
	}
}

// P14.3: each length, with one slash at each place.
func TestSplitAtOneSlash(t *testing.T) {
	a := strings.Repeat("a", 320)
	for n := range 320 {
		wantSplit(t, a[:n], modelSplit(a[:n]))
		for at := range n {
			s := a[:at] + "/" + a[at+1:n]
			wantSplit(t, s, modelSplit(s))
		}
	}
}

// P14.3: of several slashes the first that fits, also one beside another.
func TestSplitAtTheFirstSlash(t *testing.T) {
	a := strings.Repeat("a", 300)
	for _, n := range []int{100, 101, 102, 103, 120, 150, 200, 255, 256, 257, 258, 300} {
		for i := 0; i < n; i++ {
			for _, gap := range []int{1, 2, 3, 50, 99, 100, 101, 102, 154, 155, 156} {
				if k := i + gap; k < n {
					s := a[:i] + "/" + a[i+1:k] + "/" + a[k+1:n]
					wantSplit(t, s, modelSplit(s))
				}
			}
		}
		for _, piece := range []string{"/", "a/", "/a", "aa/", "//a", "\x00/\xff"} {
			s := strings.Repeat(piece, n)[:n]
			wantSplit(t, s, modelSplit(s))
		}
	}
	wantSplit(t, strings.Repeat("/", 101), pair{"/", strings.Repeat("/", 99), true})
	wantSplit(t, strings.Repeat("/", 256), pair{strings.Repeat("/", 155), strings.Repeat("/", 100), true})
	wantSplit(t, strings.Repeat("/", 257), pair{})
}

// P14.3
func TestSplitAsTheModel(t *testing.T) {
	for _, s := range mixed() {
		wantSplit(t, s, modelSplit(s))
	}
	c := chain(144)
	for range 5000 {
		s := c.text(95+c.next()%180, "a", "b", "c", "/", "\xff", "d", "e", "f")
		wantSplit(t, s, modelSplit(s))
	}
	for v := range 256 { // no other byte is a slash
		s := strings.Repeat("a", 60) + byteText(v) + strings.Repeat("b", 60)
		wantSplit(t, s, modelSplit(s))
	}
	for _, s := range []string{strings.Repeat("a/", 1<<22), strings.Repeat("/", 1<<22), strings.Repeat("a", 1<<22)} {
		wantSplit(t, s, pair{})
	}
}

// P14.3: what is ahead and behind, with a slash between, is the path.
func TestSplitLosesNothing(t *testing.T) {
	for _, s := range mixed() {
		ahead, behind, ok := paths.Split(s)
		switch {
		case !ok && len(s) > 100:
		case ok && ahead == "" && behind == s && len(s) <= 100:
		case ok && ahead+"/"+behind == s && len(s) > 100 && len(ahead) <= 155 && len(behind) <= 100:
		default:
			t.Fatalf("%q: %q, %q, %t", s, ahead, behind, ok)
		}
	}
}

// P14.3
func TestUnderByHand(t *testing.T) {
	for _, dir := range []string{"a", "a/b", "", "/", "a/", ".", "..", "\xff", strings.Repeat("a", 200)} {
		for _, rest := range []string{"", "b", "b/c", "/", "//", ".", "\x00", strings.Repeat("b", 200)} {
			wantUnder(t, dir, dir+"/"+rest, true)
			wantUnder(t, dir+"/"+rest, dir, false)
			wantUnder(t, dir+"x", dir+"/"+rest, false)
		}
		wantUnder(t, dir, dir, false)
		wantUnder(t, dir, dir+"x", false)
		wantUnder(t, dir, dir+".b", false)
		wantUnder(t, dir, "x"+dir+"/b", false)
	}
	wantUnder(t, "", "", false)
	wantUnder(t, "", "a", false)
	wantUnder(t, "", "a/b", false)
	wantUnder(t, "", "/", true)
	wantUnder(t, "/", "/a", false)
	wantUnder(t, "a", "b/a/c", false)
	wantUnder(t, "a", "A/b", false)
	wantUnder(t, "a/b", "a/b/c", true)
	wantUnder(t, "a/b", "a/bb/c", false)
	wantUnder(t, "a/b", "a/./b/c", false)
	for v := range 256 {
		wantUnder(t, "a", "a"+byteText(v), v == '/')
		wantUnder(t, "a", "a"+byteText(v)+"b", v == '/')
		wantUnder(t, "a", byteText(v)+"/b", v == 'a')
	}
}

// P14.3: all pairs of short texts.
func TestUnderAsTheModel(t *testing.T) {
	l := allTexts("/a.", 5)
	for _, dir := range l {
		for _, p := range l {
			wantUnder(t, dir, p, strings.HasPrefix(p, dir+"/"))
		}
	}
}
