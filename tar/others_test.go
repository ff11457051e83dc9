package tar_test

import (
	gotar "archive/tar"
	"bytes"
	"io"
	"strings"
	"testing"
	"time"

	"kist/api"
	"kist/tar"
)

// spelled is a text of pieces: texts, and numbers of noughts.
func spelled(l ...any) string {
	s := ""
	for _, p := range l {
		switch p := p.(type) {
		case string:
			s += p
		case int:
			s += noughts(p)
		}
	}
	return s
}

// What stands behind the kind in headers of others, which say that all belongs to kist and users, or nothing.
var (
	gnu    = spelled(100, "ustar\x0000kist", 28, "users", 27, "0000000\x000000000", 168)
	bsd    = spelled(100, "ustar\x0000kist", 28, "users", 27, "000000 \x00000000 ", 168)
	python = spelled(100, "ustar\x0000kist", 28, "users", 210)
	plain  = spelled(100, "ustar\x0000", 247)
)

// The files of these archives.
var (
	helloFile = api.Entry{Path: "dir/hello.txt", Data: "hello\n"}
	emptyFile = api.Entry{Path: "dir/empty"}
	blockFile = api.Entry{Path: "dir/sub/block", Data: letters("b", 512)}
	splitFile = api.Entry{Path: letters("p", 60) + "/" + letters("n", 55), Data: "split\n"}
	longFile  = api.Entry{Path: letters("l", 110), Data: "long\n"}
	paxFile   = api.Entry{Path: "pax-" + letters("v", 100), Data: letters("q", 600)}
)

// wantOthers holds what Unpack reads in sectors and in the noughts that their program wrote behind them.
func wantOthers(t *testing.T, s string, behind int, want ...api.Entry) {
	t.Helper()
	if len(s)%512 != 0 {
		t.Fatal(len(s))
	}
	wantUnpack(t, s+noughts(behind), want, api.OK)
	wantUnpack(t, s+noughts(512), want, api.OK)
	wantNone(t, s)
}

// P18.2, P18.4: what GNU tar wrote (--format=ustar).
func TestArchiveOfGnu(t *testing.T) {
	wantOthers(t, spelled(
		"dir/", 96, "0000755\x000001750\x000000144\x0000000000000\x0011145401322\x00012016\x00 5", gnu,
		"dir/empty", 91, "0000644\x000001750\x000000144\x0000000000000\x0011145401322\x00013065\x00 0", gnu,
		"dir/hello.txt", 87, "0000644\x000001750\x000000144\x0000000000006\x0011145401322\x00013656\x00 0", gnu,
		"hello\n", 506,
		"dir/sub/", 92, "0000755\x000001750\x000000144\x0000000000000\x0011145401322\x00012607\x00 5", gnu,
		"dir/sub/block", 87, "0000644\x000001750\x000000144\x0000000001000\x0011145401322\x00013613\x00 0", gnu,
		letters("b", 512),
		letters("p", 60), "/", 39, "0000755\x000001750\x000000144\x0000000000000\x0011145401322\x00026417\x00 5", gnu,
		letters("n", 55), 45, "0000644\x000001750\x000000144\x0000000000006\x0011145401322\x00042200\x00 0", 100, "ustar\x0000kist", 28, "users", 27, "0000000\x000000000\x00", letters("p", 60), 107,
		"split\n", 506,
	), 5120, emptyFile, helloFile, blockFile, splitFile)
}

// P18.2, P18.4: what GNU tar wrote with pairs for each file (--format=pax).
func TestArchiveOfGnuWithPairs(t *testing.T) {
	wantOthers(t, spelled(
		"pax", 97, "0000644\x000000000\x000000000\x0000000000026\x0011145401322\x00006616\x00 x", plain,
		"22 mtime=1234567890.5\n", 490,
		"dir/hello.txt", 87, "0000644\x000001750\x000000144\x0000000000006\x0011145401322\x00013656\x00 0", gnu,
		"hello\n", 506,
		"pax", 97, "0000644\x000000000\x000000000\x0000000000224\x0011145401322\x00006616\x00 x", plain,
		"126 path=", letters("p", 60), "/", letters("n", 55), "\n22 mtime=1234567890.5\n", 364,
		letters("p", 60), "/", letters("n", 39), "0000644\x000001750\x000000144\x0000000000006\x0011145401322\x00036717\x00 0", gnu,
		"split\n", 506,
		"pax", 97, "0000644\x000000000\x000000000\x0000000000216\x0011145401322\x00006617\x00 x", plain,
		"120 path=", letters("l", 110), "\n22 mtime=1234567890.5\n", 370,
		letters("l", 100), "0000644\x000001750\x000000144\x0000000000005\x0011145401322\x00036315\x00 0", gnu,
		"long\n", 507,
		"pax", 97, "0000644\x000000000\x000000000\x0000000000210\x0011145401322\x00006611\x00 x", plain,
		"114 path=pax-", letters("v", 100), "\n22 mtime=1234567890.5\n", 376,
		"pax-", letters("v", 96), "0000644\x000001750\x000000144\x0000000001130\x0011145401322\x00040123\x00 0", gnu,
		letters("q", 512),
		letters("q", 88), 424,
	), 8192, helloFile, splitFile, longFile, paxFile)
}

// P18.4: what GNU tar wrote with pairs for all files, which are passed over as directories are.
func TestArchiveOfGnuWithGlobalPairs(t *testing.T) {
	wantOthers(t, spelled(
		"glob", 96, "0000644\x000000000\x000000000\x0000000000017\x0015300071722\x00006734\x00 g", plain,
		"15 comment=all\n", 497,
		"dir/", 96, "0000755\x000001750\x000000144\x0000000000000\x0011145401322\x00012016\x00 5", gnu,
		"dir/empty", 91, "0000644\x000001750\x000000144\x0000000000000\x0011145401322\x00013065\x00 0", gnu,
		"dir/hello.txt", 87, "0000644\x000001750\x000000144\x0000000000006\x0011145401322\x00013656\x00 0", gnu,
		"hello\n", 506,
		"pax", 97, "0000644\x000000000\x000000000\x0000000000170\x0011145401322\x00006616\x00 x", plain,
		"120 path=", letters("l", 110), "\n", 392,
		letters("l", 100), "0000644\x000001750\x000000144\x0000000000005\x0011145401322\x00036315\x00 0", gnu,
		"long\n", 507,
	), 3584, emptyFile, helloFile, longFile)
}

// P18.4: pairs ahead of a directory, as GNU tar writes them where a time has a fraction, are none that Read reads.
func TestArchiveOfGnuWithPairsOfDirectories(t *testing.T) {
	s := spelled(
		"./PaxHeaders/dir", 84, "0000644\x000000000\x000000000\x0000000000122\x0011145401322\x00010762\x00 x", plain,
		"22 mtime=1234567890.5\n30 atime=1795191762.843442767\n30 ctime=1795191762.119830409\n", 430,
		"dir/", 96, "0000755\x000001750\x000000144\x0000000000000\x0011145401322\x00012016\x00 5", gnu,
		"dir/PaxHeaders/empty", 80, "0000644\x000000000\x000000000\x0000000000122\x0011145401322\x00011763\x00 x", plain,
		"22 mtime=1234567890.5\n30 atime=1795191762.119830409\n30 ctime=1795191762.119830409\n", 430,
		"dir/empty", 91, "0000644\x000001750\x000000144\x0000000000000\x0011145401322\x00013065\x00 0", gnu,
	)
	wantNone(t, s+noughts(1536))
	wantUnpack(t, s[1024:]+noughts(1536), []api.Entry{emptyFile}, api.OK)
}

// P18.2, P18.4: what bsdtar wrote, paths with a dot ahead among it.
func TestArchiveOfBsd(t *testing.T) {
	wantOthers(t, spelled(
		"./dir/", 94, "000755 \x00001750 \x00000144 \x0000000000000 15300071722 012137\x00 5", bsd,
		"./dir/empty", 89, "000644 \x00001750 \x00000144 \x0000000000000 15300071722 013206\x00 0", bsd,
		"./dir/hello.txt", 85, "000644 \x00001750 \x00000144 \x0000000000006 15300071722 013777\x00 0", bsd,
		"hello\n", 506,
		"./dir/sub/", 90, "000755 \x00001750 \x00000144 \x0000000000000 15300071722 012730\x00 5", bsd,
		"./dir/sub/block", 85, "000644 \x00001750 \x00000144 \x0000000001000 15300071722 013734\x00 0", bsd,
		letters("b", 512),
		"PaxHeader/", letters("l", 87), "\x00\x00\x00000644 \x00001750 \x00000144 \x0000000000226 15300071722 035463\x00 x", bsd,
		"120 path=", letters("l", 110), "\n30 mtime=1795191762.243602024\n", 362,
		letters("l", 98), "\x00\x00000644 \x00001750 \x00000144 \x0000000000005 15300071722 035751\x00 0", bsd,
		"long\n", 507,
	), 1024, emptyFile, helloFile, blockFile, longFile)
}

// P18.2, P18.4: what Python's tarfile wrote, a pair size among it.
func TestArchiveOfPython(t *testing.T) {
	wantOthers(t, spelled(
		"dir/", 96, "0000644\x000001750\x000000144\x0000000000000\x0011145401322\x00010553\x00 5", python,
		"dir/hello.txt", 87, "0000644\x000001750\x000000144\x0000000000006\x0011145401322\x00012416\x00 0", python,
		"hello\n", 506,
		"././@PaxHeader", 86, "0000000\x000000000\x000000000\x0000000000176\x0000000000000\x00010221\x00 x", plain,
		"126 path=", letters("p", 60), "/", letters("n", 55), "\n", 386,
		letters("p", 60), "/", letters("n", 39), "0000644\x000001750\x000000144\x0000000000006\x0011145401322\x00035457\x00 0", python,
		"split\n", 506,
		"././@PaxHeader", 86, "0000000\x000000000\x000000000\x0000000000170\x0000000000000\x00010213\x00 x", plain,
		"120 path=", letters("l", 110), "\n", 392,
		letters("l", 100), "0000644\x000001750\x000000144\x0000000000005\x0011145401322\x00035055\x00 0", python,
		"long\n", 507,
		"././@PaxHeader", 86, "0000000\x000000000\x000000000\x0000000000031\x0000000000000\x00010207\x00 x", plain,
		"13 comment=c\n12 size=513\n", 487,
		"a", 99, "0000644\x000001750\x000000144\x0000000001001\x0011145401322\x00010133\x00 0", python,
		letters("x", 512),
		"x", 511,
	), 2048, helloFile, splitFile, longFile, api.Entry{Path: "a", Data: letters("x", 513)})
}

// plainFile is a file that Go's own writer writes as pax asks for it.
func (c *chain) plainFile() api.Entry {
	file := c.file()
	file.Path = strings.ReplaceAll(file.Path, " ", "s")
	return file
}

// writtenByGo is the archive that Go's own writer makes, with a directory ahead of each file.
func writtenByGo(t *testing.T, l []api.Entry, format gotar.Format, pairs map[string]string) string {
	t.Helper()
	var b bytes.Buffer
	w := gotar.NewWriter(&b)
	for _, file := range l {
		directory := gotar.Header{Typeflag: gotar.TypeDir, Name: "d/", Mode: 0o755, Format: format}
		header := gotar.Header{Typeflag: gotar.TypeReg, Name: file.Path, Size: int64(len(file.Data)), Mode: 0o640, Uname: "kist", ModTime: time.Unix(1234567890, 0), Format: format, PAXRecords: pairs}
		for _, h := range []*gotar.Header{&directory, &header} {
			if err := w.WriteHeader(h); err != nil {
				t.Fatal(file.Path, err)
			}
		}
		if _, err := io.WriteString(w, file.Data); err != nil {
			t.Fatal(err)
		}
	}
	if err := w.Close(); err != nil {
		t.Fatal(err)
	}
	return b.String()
}

// P18.2, P18.4: what Go's own writer makes is read.
func TestArchivesOfGo(t *testing.T) {
	c := chain(192)
	for range 500 {
		var l []api.Entry
		for range c.length(8) {
			l = append(l, c.plainFile())
		}
		wantUnpack(t, writtenByGo(t, l, gotar.FormatPAX, nil), l, api.OK)
		wantUnpack(t, writtenByGo(t, l, gotar.FormatPAX, map[string]string{"comment": c.bytes(c.length(900))}), l, api.OK)
		for i := range l {
			l[i].Path = l[i].Path[:min(len(l[i].Path), 99)]
			if !modelMay(l[i].Path) {
				l[i].Path = "b"
			}
		}
		wantUnpack(t, writtenByGo(t, l, gotar.FormatUSTAR, nil), l, api.OK)
	}
}

// P18.1, P18.3: Go's own reader reads what Pack makes.
func TestArchivesReadByGo(t *testing.T) {
	c := chain(193)
	for range 1000 {
		var l []api.Entry
		for range c.length(8) {
			l = append(l, c.plainFile())
		}
		s, e := tar.Pack(l)
		if e != api.OK {
			t.Fatal(shortList(l), int(e))
		}
		r := gotar.NewReader(strings.NewReader(s))
		for _, file := range l {
			h, err := r.Next()
			if err != nil {
				t.Fatal(file.Path, err)
			}
			data, err := io.ReadAll(r)
			if err != nil || string(data) != file.Data || h.Name != file.Path || h.Typeflag != gotar.TypeReg || h.Mode != 0o644 || h.Size != int64(len(file.Data)) || h.Uid != 0 || h.Gid != 0 || h.Uname != "" || h.Gname != "" || h.ModTime.Unix() != 0 {
				t.Fatalf("%q %+v %v", file.Path, h, err)
			}
		}
		if h, err := r.Next(); err != io.EOF {
			t.Fatal(h, err)
		}
	}
}
