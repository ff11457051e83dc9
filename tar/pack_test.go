package tar_test

import (
	"slices"
	"testing"

	"kist/api"
	"kist/tar"
)

// P18.3
func TestPackOfTheExamples(t *testing.T) {
	wantPack(t, nil, noughts(1024), api.OK)
	wantPack(t, []api.Entry{}, noughts(1024), api.OK)
	wantPack(t, list("a", "hello"), hello()+noughts(1024), api.OK)
}

// P18.3: files in order, also such as have one path.
func TestPackByHand(t *testing.T) {
	long := letters("l", 101)
	wantPack(t, list("b", "", "a", "x", long, "hello", "b", letters("y", 513), "a", "x"),
		part("b", '0', "")+part("a", '0', "x")+extended("path", long)+part(long[:100], '0', "hello")+part("b", '0', letters("y", 513))+part("a", '0', "x")+noughts(1024), api.OK)
}

// P18.3: Entry's errors, file by file, the first one's.
func TestPackTellsTheFirstError(t *testing.T) {
	much := letters("x", 262145)
	bad := api.Entry{Path: "a//b"}
	big := api.Entry{Path: "a", Data: much}
	worst := api.Entry{Path: "", Data: much}
	may := api.Entry{Path: "a", Data: "hello"}
	for _, c := range []struct {
		l []api.Entry
		e api.Errno
	}{
		{[]api.Entry{bad}, api.ErrPath},
		{[]api.Entry{big}, api.ErrBig},
		{[]api.Entry{worst}, api.ErrPath},
		{[]api.Entry{bad, big}, api.ErrPath},
		{[]api.Entry{big, bad}, api.ErrBig},
		{[]api.Entry{worst, big}, api.ErrPath},
		{[]api.Entry{big, worst}, api.ErrBig},
		{[]api.Entry{may, bad, big}, api.ErrPath},
		{[]api.Entry{may, big, bad}, api.ErrBig},
		{[]api.Entry{may, may, may, worst, may, big}, api.ErrPath},
		{[]api.Entry{may, may, big, may}, api.ErrBig},
		{[]api.Entry{may, may, may, bad}, api.ErrPath},
		{[]api.Entry{bad, may, may, may}, api.ErrPath},
	} {
		wantPack(t, c.l, "", c.e)
	}
}

// P18.3: a file that may not be is told ahead of too many bytes of all files, wherever it stands.
func TestPackTellsFilesFirst(t *testing.T) {
	much := api.Entry{Path: "a", Data: letters("x", 262144)}
	l := []api.Entry{much, much, much, much}
	wantPack(t, l, "", api.ErrBig)
	for at := range len(l) + 1 {
		wantPack(t, slices.Insert(slices.Clone(l), at, api.Entry{Path: ".."}), "", api.ErrPath)
		wantPack(t, slices.Insert(slices.Clone(l), at, api.Entry{Path: "a\x00", Data: letters("x", 300000)}), "", api.ErrPath)
		wantPack(t, slices.Insert(slices.Clone(l), at, api.Entry{Path: "a", Data: letters("x", 262145)}), "", api.ErrBig)
	}
	for range 1 << 16 { // far more bytes than can be laid: each file has the same
		l = append(l, much)
	}
	wantPack(t, l, "", api.ErrBig)
	l[len(l)-1].Path = "/"
	wantPack(t, l, "", api.ErrPath)
}

// P18.3: 2 MaxText bytes, the end's among them, and a sector more.
func TestPackAtTheLimit(t *testing.T) {
	for _, c := range []struct {
		l []api.Entry
		e api.Errno
	}{
		{list("a", letters("x", 262144), "b", letters("y", 508*512)), api.OK}, // 513 sectors, 509, and 2
		{list("a", letters("x", 262144), "b", letters("y", 508*512-511)), api.OK},
		{list("a", letters("x", 262144), "b", letters("y", 508*512+1)), api.ErrBig},
		{list("a", letters("x", 262144), "b", letters("y", 262144)), api.ErrBig},
		{list("b", letters("y", 508*512), "a", letters("x", 262144)), api.OK},
		{list("b", letters("y", 508*512+1), "a", letters("x", 262144)), api.ErrBig},
		{list("a", letters("x", 262144), "b", letters("y", 507*512), "c", ""), api.OK},
		{list("a", letters("x", 262144), "b", letters("y", 507*512), "c", "z"), api.ErrBig},
		{list("a", letters("x", 262144), "b", letters("y", 508*512), "c", ""), api.ErrBig},
		{list(letters("l", 110), letters("x", 262144), "b", letters("y", 506*512)), api.OK},
		{list(letters("l", 110), letters("x", 262144), "b", letters("y", 506*512+1)), api.ErrBig},
		{list("a", letters("x", 262144), letters("l", 110), letters("y", 506*512)), api.OK},
		{list("a", letters("x", 262144), letters("l", 110), letters("y", 506*512+1)), api.ErrBig},
	} {
		likePack(t, c.l)
		if s, e := tar.Pack(c.l); e != c.e || e == api.OK && len(s) != 524288 {
			t.Fatal(shortList(c.l), len(s), int(e))
		}
	}
	var l []api.Entry
	for range 1022 {
		l = append(l, api.Entry{Path: "a"})
	}
	wantPack(t, l, letters(part("a", '0', ""), 1022)+noughts(1024), api.OK)
	for at := range 10 {
		l[at*100].Data = "x"
		wantPack(t, l, "", api.ErrBig)
		l[at*100].Data = ""
	}
	wantPack(t, append(l, api.Entry{Path: "a"}), "", api.ErrBig)
	l = slices.Repeat(list(letters("l", 120), ""), 341) // three sectors each
	likePack(t, l[:340])
	wantPack(t, l, "", api.ErrBig)
}

// P18.3: lists of all kinds of files, some of them not right.
func TestPackAsTheModel(t *testing.T) {
	c := chain(185)
	for range 2000 {
		l := c.files(c.length(12))
		if len(l) > 0 && c.next()%3 == 0 {
			l[c.next()%len(l)].Path = c.oneOf("", "a/", "..", letters("a", 121), "\xff")
		}
		if len(l) > 0 && c.next()%16 == 0 {
			l[c.next()%len(l)].Data = letters("x", 262140+c.next()%8)
		}
		likePack(t, l)
	}
	for range 100 {
		l := c.files(2 + c.next()%3)
		for i := range l {
			l[i].Data = c.bytes(c.next() % 262144)
		}
		likePack(t, l)
	}
}

// P18.3: what stands behind a list in its spare room is left as it is.
func TestPackLeavesSpareRoom(t *testing.T) {
	l := list("a", "1", "b", "2", "c", "3")
	wantPack(t, l[:1], part("a", '0', "1")+noughts(1024), api.OK)
	wantPack(t, l[1:2], part("b", '0', "2")+noughts(1024), api.OK)
	wantPack(t, l, part("a", '0', "1")+part("b", '0', "2")+part("c", '0', "3")+noughts(1024), api.OK)
}

// P18.6: Unpack of Pack is the files.
func TestUnpackOfPack(t *testing.T) {
	c := chain(187)
	for range 2000 {
		l := c.files(c.length(12))
		s, e := tar.Pack(l)
		if e != api.OK {
			t.Fatal(shortList(l), int(e))
		}
		wantUnpack(t, s, l, api.OK)
		wantUnpack(t, s[:len(s)-512], l, api.OK)
		wantUnpack(t, s+c.bytes(c.length(2000)), l, api.OK)
		if len(l) > 0 {
			wantNone(t, s[:c.next()%(len(s)-1024)])
		}
	}
	l := list(letters("l", 110), c.bytes(262144), "b/c", c.bytes(506*512))
	s, e := tar.Pack(l)
	if e != api.OK || len(s) != 524288 {
		t.Fatal(len(s), int(e))
	}
	wantUnpack(t, s, l, api.OK)
}
