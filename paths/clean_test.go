package paths_test

import (
	"strings"
	"testing"

	"kist/api"
	"kist/paths"
)

// P14.1
func TestCleanOfTheExamples(t *testing.T) {
	wantClean(t, "/a//b/./c/", "a/b/c", api.OK)
	wantClean(t, "a/../b", "", api.ErrPath)
	wantClean(t, "./", "", api.ErrPath)
}

// P14.1: what may be is told as it is, and Check takes just that.
func TestCleanByHand(t *testing.T) {
	for _, p := range []string{"a", "a/b", "...", "a/...", ".../a", ".a", "a.", "..a", "a..", "a..b", ". ", " .", ".. ", " ..", " ", "  /  ", "~", "a b/c d", "\\", "a:b", "*", "-", "a.b/c.d", "AbC/0"} {
		wantClean(t, p, p, api.OK)
	}
	for s, want := range map[string]string{"/a": "a", "a/": "a", "//a//": "a", "./a": "a", "a/.": "a", "././a/././b/./.": "a/b", "/./a": "a", "a/./b": "a/b", "a//b": "a/b", "a///b": "a/b", "/ /": " ", "/./.a/./a./.": ".a/a.", "///.../": "..."} {
		wantClean(t, s, want, api.OK)
	}
	for _, s := range []string{"", "/", "//", ".", "./.", "/.", "/./", "././//./", "..", "/..", "../", "/../", "../a", "a/..", "./..", "../.", "a/b/..", "a/../..", "a//..//b", ".././a"} {
		wantClean(t, s, "", api.ErrPath)
	}
}

// P14.1: each byte, at each place of a path.
func TestCleanOfBytes(t *testing.T) {
	for v := range 256 {
		one := byteText(v)
		for _, s := range []string{one, one + one, one + "a", "a" + one, "a" + one + "a", "a/" + one, one + "/a", "a/" + one + "/a", one + ".", "." + one, ".." + one, one + "..", "./" + one, one + "/.", "/" + one, one + "/", "a/b" + one + "b/a", strings.Repeat("a", 119) + one, one + strings.Repeat("a", 119)} {
			likeClean(t, s)
		}
		if p, e := paths.Clean("a" + one + "a"); (e == api.OK) != (v >= 32 && v <= 126) || e != api.OK && p != "" {
			t.Fatal(v, p, int(e))
		}
	}
	for _, s := range []string{"ä", "a/ö", "\u20ac/a", "\xc3", "a\x80", "\U0001f600", "\ufffd", "a/\xff/b"} {
		wantClean(t, s, "", api.ErrPath)
	}
}

// P14.1: all short texts.
func TestCleanAsTheModel(t *testing.T) {
	for _, s := range allTexts("/.a", 9) {
		likeClean(t, s)
	}
	for _, s := range allTexts("/.a \x1f\x7f", 5) {
		likeClean(t, s)
	}
	for _, s := range mixed() {
		likeClean(t, s)
	}
}

// P14.1: 120 bytes may be, 121 not, however they are parted.
func TestCleanAtTheLimit(t *testing.T) {
	long := strings.Repeat("a", 120)
	wantClean(t, long, long, api.OK)
	wantClean(t, long+"a", "", api.ErrPath)
	for at := range 120 {
		for _, between := range []string{"/", "//", "/./", "/.//./"} {
			if ahead, behind := long[:at], long[at+1:]; at > 0 && at < 119 {
				wantClean(t, ahead+between+behind, ahead+"/"+behind, api.OK)
				wantClean(t, ahead+between+behind+"a", "", api.ErrPath)
				wantClean(t, "a"+ahead+between+behind, "", api.ErrPath)
				wantClean(t, ahead+between+behind+"/a", "", api.ErrPath)
			}
		}
	}
	many := strings.Repeat("a/", 59)
	wantClean(t, many+"aa", many+"aa", api.OK)
	wantClean(t, many+"a", many+"a", api.OK)
	wantClean(t, many+"a/", many+"a", api.OK)
	wantClean(t, many+"a/a", "", api.ErrPath)
	wantClean(t, many+"aaa", "", api.ErrPath)
	wantClean(t, many+"aa/", many+"aa", api.OK)
	wantClean(t, many+"aa/a", "", api.ErrPath)
	for n := 110; n < 260; n++ {
		likeClean(t, strings.Repeat("a", n))
		likeClean(t, strings.Repeat("ab/", n/3))
		likeClean(t, strings.Repeat("./ab/", n/3))
		likeClean(t, strings.Repeat("a", n-10)+"/./"+strings.Repeat("a", 7)+"//a")
	}
}

// P14.1: the limit is of what is told, not of what is given: long texts of little, and of too much.
func TestCleanOfLongTexts(t *testing.T) {
	const n = 1 << 20
	long := strings.Repeat("a", 120)
	for _, nothing := range []string{"/", "./", "/./", "//.///./"} {
		much := strings.Repeat(nothing, n)
		wantClean(t, much, "", api.ErrPath)
		wantClean(t, much+"/a/"+much, "a", api.OK)
		wantClean(t, long[:60]+"/"+much+long[61:]+"/"+much, long[:60]+"/"+long[61:], api.OK)
		wantClean(t, long[:60]+"/"+much+long[60:]+"/"+much, "", api.ErrPath)
		wantClean(t, long+"/"+much+"/..", "", api.ErrPath)
		wantClean(t, long+"/"+much+"/\x7f", "", api.ErrPath)
	}
	for _, s := range []string{strings.Repeat("a", 1<<26), strings.Repeat("a/", 1<<25), strings.Repeat(".", 1<<26), strings.Repeat("../", 1<<24), strings.Repeat("\x00", 1<<26)} {
		wantClean(t, s, "", api.ErrPath)
	}
}

// P14.4
func TestCleanOfClean(t *testing.T) {
	n := 0
	for _, s := range append(allTexts("/.a ", 7), mixed()...) {
		p, e := paths.Clean(s)
		if e != api.OK {
			continue
		}
		n++
		wantClean(t, p, p, api.OK)
		l := paths.Parts(p)
		if strings.Join(l, "/") != p {
			t.Fatalf("%q: %q, %q", s, p, l)
		}
		for _, part := range l {
			if part == "" || part == "." || part == ".." {
				t.Fatalf("%q: %q, %q", s, p, l)
			}
		}
		wantClean(t, strings.Join(l, "/./"), p, api.OK)
		wantClean(t, "//"+strings.Join(l, "//")+"/.", p, api.OK)
	}
	if n < 1000 {
		t.Error(n)
	}
}
