package tar_test

import (
	"slices"
	"testing"

	"kist/api"
	"kist/paths"
	"kist/tar"
)

// P18.5
func TestLastByHand(t *testing.T) {
	wantLast(t, nil, nil)
	wantLast(t, []api.Entry{}, nil)
	wantLast(t, list("a", "1"), list("a", "1"))
	wantLast(t, list("a", "1", "a", "2"), list("a", "2"))
	wantLast(t, list("a", "2", "a", "1"), list("a", "1"))
	wantLast(t, list("a", "1", "a", ""), list("a", ""))
	wantLast(t, list("b", "1", "a", "2"), list("a", "2", "b", "1"))
	wantLast(t, list("b", "1", "a", "2", "b", "3"), list("a", "2", "b", "3"))
	wantLast(t, list("a", "1", "b", "1", "a", "1"), list("a", "1", "b", "1"))
	wantLast(t, list("a", "1", "b", "2", "c", "3", "b", "4", "a", "5", "b", "6"), list("a", "5", "b", "6", "c", "3"))
}

// P18.5: the order of paths is not that of their bytes.
func TestLastInTheOrderOfPaths(t *testing.T) {
	rising := list("", "1", "/", "2", "a", "3", "a/", "4", "a/b", "5", "a/b/c", "6", "a/b.c", "7", "a!", "8", "a.b", "9", "a.b/c", "10", "b", "11", "\xff", "12")
	for i := range rising[1:] {
		if paths.Cmp(rising[i].Path, rising[i+1].Path) >= 0 {
			t.Fatal(rising[i], rising[i+1])
		}
	}
	falling := slices.Clone(rising)
	slices.Reverse(falling)
	wantLast(t, rising, rising)
	wantLast(t, falling, rising)
	for at := range rising {
		turned := append(slices.Clone(rising[at:]), rising[:at]...)
		wantLast(t, turned, rising)
		wantLast(t, append(turned, falling...), rising)
	}
}

// P18.5: any texts are paths here; those that Clean tells alike are not one.
func TestLastOfAnyPaths(t *testing.T) {
	wantLast(t, list("a/", "1", "a", "2", "./a", "3", "/a", "4", "a", "5", "A", "6", "a\x00", "7"), list("/a", "4", "./a", "3", "A", "6", "a", "5", "a/", "1", "a\x00", "7"))
	wantLast(t, list("", "1", "", "2"), list("", "2"))
	long := letters("l/", 100000)
	wantLast(t, list(long+"b", "1", long, "2", long+"b", "3", long+"a", "4"), list(long, "2", long+"a", "4", long+"b", "3"))
}

// P18.5: many files of few paths, and of as many paths.
func TestLastOfManyFiles(t *testing.T) {
	c := chain(189)
	for _, most := range []int{1, 2, 30, 1 << 30} {
		var l []api.Entry
		for range 3000 {
			n := c.next() % most
			l = append(l, api.Entry{Path: letters("d/", n%3) + byteText('a'+n%7) + letters("f", n/7%100), Data: c.bytes(3)})
		}
		wantLast(t, l, modelLast(l))
	}
}

// P18.5: lists of all kinds of files.
func TestLastAsTheModel(t *testing.T) {
	c := chain(190)
	for range 5000 {
		l := make([]api.Entry, c.length(40))
		for i := range l {
			l[i] = api.Entry{Path: c.oneOf("", "a", "b", "/") + c.oneOf("", "/", ".", "a") + c.oneOf("", "b", "/c"), Data: c.bytes(1)}
		}
		wantLast(t, l, modelLast(l))
	}
}

// P18.5: what is handed out is not what was handed in, and the spare room of that is left as it is.
func TestLastHandsOutItsOwn(t *testing.T) {
	l := list("a", "1", "b", "2", "c", "3")
	last := tar.Last(l[:2])
	last[0].Path = "changed"
	_ = append(last[:1], api.Entry{Path: "changed"}, api.Entry{Path: "changed"})
	if !slices.Equal(l, list("a", "1", "b", "2", "c", "3")) {
		t.Fatal(shortList(l))
	}
	wantLast(t, l[:2], l[:2])
	wantLast(t, l[1:], l[1:])
}

// P18.7: Last of Last is the same; files that come behind others with all their paths leave nothing of these.
func TestLastOfLast(t *testing.T) {
	c := chain(191)
	for range 2000 {
		l := c.files(c.length(20))
		for i := range l {
			l[i].Data = c.bytes(2)
		}
		last := tar.Last(l)
		wantLast(t, last, last)
		later := slices.Clone(l)
		for i := range later {
			later[i].Data = c.bytes(3)
		}
		later = append(later, c.files(c.length(5))...)
		wantLast(t, append(slices.Clone(l), later...), tar.Last(later))
	}
}
