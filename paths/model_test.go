package paths_test

import (
	"slices"
	"strings"
	"testing"

	"kist/api"
	"kist/paths"
)

// The model: parts gathered byte by byte, lists of them looked through in whole.

func modelParts(s string) []string {
	l := []string{""}
	for i := range len(s) {
		if s[i] == '/' {
			l = append(l, "")
		} else {
			l[len(l)-1] += s[i : i+1]
		}
	}
	return l
}

func modelClean(s string) (string, api.Errno) {
	for i := range len(s) {
		if s[i] < 32 || s[i] > 126 {
			return "", api.ErrPath
		}
	}
	var kept []string
	for _, part := range modelParts(s) {
		if part != "" && part != "." {
			kept = append(kept, part)
		}
	}
	clean := strings.Join(kept, "/")
	if len(kept) == 0 || slices.Contains(kept, "..") || len(clean) > 120 {
		return "", api.ErrPath
	}
	return clean, api.OK
}

func modelCheck(p string) api.Errno {
	clean, e := modelClean(p)
	if e == api.OK && clean == p {
		return api.OK
	}
	return api.ErrPath
}

func modelCmp(a, b string) int {
	l, m := modelParts(a), modelParts(b)
	for i := range l {
		if i == len(m) || l[i] > m[i] {
			return 1
		}
		if l[i] < m[i] {
			return -1
		}
	}
	if len(l) < len(m) {
		return -1
	}
	return 0
}

// pair is what a path is split into.
type pair struct {
	ahead, behind string
	ok            bool
}

// modelSplit looks at the slashes from the end on, so that the first one is found last.
func modelSplit(p string) pair {
	if len(p) < 101 {
		return pair{"", p, true}
	}
	var out pair
	for i := len(p) - 1; i >= 0; i-- {
		if ahead, behind := p[:i], p[i+1:]; p[i] == '/' && len(ahead) > 0 && len(ahead) < 156 && len(behind) > 0 && len(behind) < 101 {
			out = pair{ahead, behind, true}
		}
	}
	return out
}

// wantClean holds what Clean and Check answer against what they should.
func wantClean(t *testing.T, s, want string, wantE api.Errno) {
	t.Helper()
	if p, e := paths.Clean(s); p != want || e != wantE {
		t.Fatalf("Clean of %d bytes (%.140q) = %q, %d; not %q, %d", len(s), s, p, int(e), want, int(wantE))
	}
	checkE := api.ErrPath
	if wantE == api.OK && want == s {
		checkE = api.OK
	}
	if e := paths.Check(s); e != checkE {
		t.Fatalf("Check of %d bytes (%.140q) = %d, not %d", len(s), s, int(e), int(checkE))
	}
}

// likeClean holds Clean and Check against the model.
func likeClean(t *testing.T, s string) {
	t.Helper()
	want, wantE := modelClean(s)
	wantClean(t, s, want, wantE)
	if e := paths.Check(s); e != modelCheck(s) {
		t.Fatalf("Check(%q) = %d", s, int(e))
	}
}

// wantParts holds what Parts answers against what it should.
func wantParts(t *testing.T, p string, want ...string) {
	t.Helper()
	if l := paths.Parts(p); !slices.Equal(l, want) {
		t.Fatalf("Parts(%.140q) = %.140q, not %.140q", p, l, want)
	}
}

// wantCmp holds what Cmp answers against what it should, both ways round.
func wantCmp(t *testing.T, a, b string, want int) {
	t.Helper()
	if c := paths.Cmp(a, b); c != want {
		t.Fatalf("Cmp(%.140q, %.140q) = %d, not %d", a, b, c, want)
	}
	if c := paths.Cmp(b, a); c != -want {
		t.Fatalf("Cmp(%.140q, %.140q) = %d, not %d", b, a, c, -want)
	}
}

// wantSplit holds what Split answers against what it should.
func wantSplit(t *testing.T, p string, want pair) {
	t.Helper()
	if ahead, behind, ok := paths.Split(p); want != (pair{ahead, behind, ok}) {
		t.Fatalf("Split of %d bytes (%.300q) = %q, %q, %t; not %q, %q, %t", len(p), p, ahead, behind, ok, want.ahead, want.behind, want.ok)
	}
}

// wantUnder holds what Under answers against what it should.
func wantUnder(t *testing.T, dir, p string, want bool) {
	t.Helper()
	if u := paths.Under(dir, p); u != want {
		t.Fatalf("Under(%.140q, %.140q) = %t", dir, p, u)
	}
}

// allTexts are those of at most n bytes that stand in letters.
func allTexts(letters string, n int) []string {
	l := []string{""}
	for from := 0; n > 0; n-- {
		to := len(l)
		for _, s := range l[from:to] {
			for i := range len(letters) {
				l = append(l, s+letters[i:i+1])
			}
		}
		from = to
	}
	return l
}

// byteText is a text of one byte.
func byteText(v int) string { return string([]byte{byte(v)}) }

// chain is a plain rule for numbers that look mixed, the same at each run.
type chain uint64

func (c *chain) next() int {
	*c = *c*6364136223846793005 + 1442695040888963407
	return int(*c >> 33)
}

// text is one of n pieces.
func (c *chain) text(n int, pieces ...string) string {
	var b strings.Builder
	for range n {
		b.WriteString(pieces[c.next()%len(pieces)])
	}
	return b.String()
}

// mixed are texts of all lengths up to some hundred bytes.
func mixed() []string {
	c := chain(141)
	var l []string
	for n := range 150 {
		for range 8 {
			l = append(l,
				c.text(n, "/", "a"),
				c.text(n, "/", "a", ".", "b"),
				c.text(n, "/", "/./", "ab", "a.b", ".a", "~", " "),
				c.text(n, "/a", "/b", "/.", "/..."),
				c.text(n, "a", "b", "c", "d", "e", "/"),
			)
		}
		l = append(l, c.text(n, "/", "a", "..", ".", "\x00", "\x1f", "\x7f", "\xff", "ä"))
	}
	return l
}
