package ustar_test

import (
	"archive/tar"
	"bytes"
	"strings"
	"testing"
	"time"

	"kist/api"
	"kist/ustar"
)

// piece is some bytes of a header, and where they stand.
type piece struct {
	at   int
	text string
}

// sector is one of pieces, noughts between them.
func sector(l ...piece) string {
	b := make([]byte, 512)
	for _, p := range l {
		copy(b[p.at:], p.text)
	}
	return string(b)
}

// gnu is a header as GNU tar writes it (--format=ustar) of what kist, 1000, of users, 100, may write, and of the second 1234567890.
func gnu(name, size, sum, kind string, l ...piece) string {
	return sector(append(l, piece{0, name}, piece{100, "0000640"}, piece{108, "0001750"}, piece{116, "0000144"}, piece{124, size}, piece{136, "11145401322"}, piece{148, sum}, piece{155, " " + kind},
		piece{257, "ustar"}, piece{263, "00kist"}, piece{297, "users"}, piece{329, "0000000"}, piece{337, "0000000"})...)
}

// P16.1, P16.2: what GNU tar wrote is read, and written likewise.
func TestHeadersOfGnu(t *testing.T) {
	x, y := letters("x", 60), letters("y", 60)
	for s, h := range map[string]api.Head{
		gnu("dir/hello.txt", "00000000005", "013651", "0"):    {Path: "dir/hello.txt", Kind: '0', Size: 5},
		gnu("dir/", "00000000000", "012007", "5"):             {Path: "dir/", Kind: '5'},
		gnu(y, "00000000003", "045423", "0", piece{345, x}):   {Path: x + "/" + y, Kind: '0', Size: 3},
		gnu("dir/sym", "00000000000", "014377", "2hello.txt"): {Path: "dir/sym", Kind: '2', Link: "hello.txt"},
		gnu("dir/hard", "00000000000", "015262", "1dir/hello.txt"): {
			Path: "dir/hard", Kind: '1', Link: "dir/hello.txt"},
	} {
		h.Mode, h.Time, h.Ids, h.Names = 0640, 1234567890, [2]int{1000, 100}, [2]string{"kist", "users"}
		wantDecode(t, s, h, api.OK)
		if h.Kind == '0' || h.Kind == '5' {
			wantEncode(t, h, s, api.OK)
		} else {
			wantEncode(t, h, "", api.ErrHeader)
		}
	}
}

// P16.2: a header of Python's tarfile, which leaves a device's numbers empty.
func TestHeaderOfPython(t *testing.T) {
	x, y := letters("x", 60), letters("y", 60)
	s := sector(piece{0, y}, piece{100, "0004755"}, piece{108, "7777777"}, piece{116, "0000001"}, piece{124, "00000000003"}, piece{136, "77777777777"}, piece{148, "042676"}, piece{155, " 0"}, piece{257, "ustar"}, piece{263, "00u"}, piece{297, "g"}, piece{345, x})
	wantDecode(t, s, api.Head{Path: x + "/" + y, Size: 3, Kind: '0', Mode: 04755, Time: 8589934591, Names: [2]string{"u", "g"}, Ids: [2]int{2097151, 1}}, api.OK)
}

// P16.2: headers of GNU tar that are older than ustar (v7), or of a form of its own (oldgnu).
func TestHeadersOfOtherForms(t *testing.T) {
	hello := []piece{{0, "dir/hello.txt"}, {100, "0000640"}, {108, "0001750"}, {116, "0000144"}, {124, "00000000005"}, {136, "11145401322"}}
	wantNone(t, sector(append(hello[:6:6], piece{148, "010375"}, piece{155, " "}, piece{329, "0000000"}, piece{337, "0000000"})...))
	wantNone(t, sector(append(hello[:6:6], piece{148, "012351"}, piece{155, " 0"}, piece{257, "ustar  "}, piece{265, "kist"}, piece{297, "users"})...))
}

// asGo is a head as Go's own package has it.
func asGo(h api.Head) tar.Header {
	return tar.Header{Typeflag: h.Kind, Name: h.Path, Linkname: h.Link, Mode: int64(h.Mode), Uid: h.Ids[0], Gid: h.Ids[1], Size: int64(h.Size), ModTime: time.Unix(int64(h.Time), 0), Uname: h.Names[0], Gname: h.Names[1], Format: tar.FormatUSTAR}
}

// plainHead is a head that Go's writer takes for ustar: of plain letters, with slashes where Split parts it.
func (c *chain) plainHead() api.Head {
	h := c.head()
	plain := func(s string) string {
		return strings.Map(func(r rune) rune { return 'a' + r%26 }, s)
	}
	h.Path, h.Link, h.Names = plain(h.Path), "", [2]string{plain(h.Names[0]), plain(h.Names[1])}
	if len(h.Path) > 100 {
		at := min(155, len(h.Path)-2-c.next()%100)
		h.Path = h.Path[:at] + "/" + h.Path[at+1:]
	}
	h.Kind = '0'
	return h
}

// P16.1, P16.2: headers that Go's own writer makes are made, and read.
func TestHeadersOfGo(t *testing.T) {
	c := chain(167)
	long := 0
	for range 1000 {
		h := c.plainHead()
		var b bytes.Buffer
		g := asGo(h)
		if err := tar.NewWriter(&b).WriteHeader(&g); err != nil {
			t.Fatalf("%+v: %v", h, err)
		}
		wantEncode(t, h, b.String(), api.OK)
		wantDecode(t, b.String(), h, api.OK)
		if len(h.Path) > 100 {
			long++
		}
	}
	if long < 100 {
		t.Fatal(long)
	}
}

// P16.1: Go's own reader reads what Encode makes.
func TestHeadersReadByGo(t *testing.T) {
	c := chain(168)
	for range 1000 {
		h := c.plainHead()
		s, e := ustar.Encode(h)
		if e != api.OK {
			t.Fatalf("%+v: %d", h, int(e))
		}
		g, err := tar.NewReader(strings.NewReader(s)).Next()
		if err != nil {
			t.Fatalf("%+v: %v", h, err)
		}
		back := api.Head{Path: g.Name, Size: int(g.Size), Kind: g.Typeflag, Mode: int(g.Mode), Time: int(g.ModTime.Unix()), Link: g.Linkname, Names: [2]string{g.Uname, g.Gname}, Ids: [2]int{g.Uid, g.Gid}}
		if back != h || g.Format != tar.FormatUSTAR {
			t.Fatalf("%+v, %+v", back, h)
		}
	}
}
