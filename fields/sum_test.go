package fields_test

import (
	"archive/tar"
	"bytes"
	"fmt"
	"strings"
	"testing"
	"time"

	"kist/api"
	"kist/fields"
)

// changed is a sector with another byte at a place.
func changed(s string, at, v int) string { return s[:at] + byteText(v) + s[at+1:] }

// inSum tells whether a place is none of the eight that count as blanks.
func inSum(at int) bool { return at < 148 || at > 155 }

// P15.4
func TestSumByHand(t *testing.T) {
	wantSum(t, noughts(512), 256, api.OK)
	wantSum(t, strings.Repeat(" ", 512), 512*32, api.OK)
	wantSum(t, strings.Repeat("\x01", 512), 504+256, api.OK)
	wantSum(t, strings.Repeat("\x7f", 512), 504*127+256, api.OK)
	wantSum(t, strings.Repeat("\x80", 512), 504*128+256, api.OK)
	wantSum(t, strings.Repeat("\xff", 512), 504*255+256, api.OK)
	wantSum(t, noughts(148)+"\xff\xff\xff\xff\xff\xff\xff\xff"+noughts(356), 256, api.OK)
	wantSum(t, noughts(147)+"\x01"+noughts(364), 257, api.OK)
	wantSum(t, noughts(156)+"\x01"+noughts(355), 257, api.OK)
}

// P15.4: a sector has 512 bytes.
func TestSumOfLengths(t *testing.T) {
	for n := range 1100 {
		for _, v := range []string{"\x00", "a"} {
			likeSum(t, strings.Repeat(v, n))
		}
		if n != 512 {
			wantSum(t, noughts(n), 0, api.ErrArg)
		}
	}
	for _, n := range []int{1 << 20, 1<<20 + 512} {
		wantSum(t, noughts(n), 0, api.ErrArg)
	}
}

// P15.4: each byte at each place.
func TestSumOfBytes(t *testing.T) {
	none := noughts(512)
	for at := range 512 {
		for v := range 256 {
			want := 256
			if inSum(at) {
				want += v
			}
			wantSum(t, changed(none, at, v), want, api.OK)
		}
	}
}

// P15.4
func TestSumAsTheModel(t *testing.T) {
	c := chain(155)
	for range 2000 {
		likeSum(t, c.sector())
	}
}

// P15.5: another byte makes another sum, but for the eight.
func TestSumOfAnotherByte(t *testing.T) {
	c := chain(156)
	for range 3 {
		s := c.sector()
		sum, _ := fields.Sum(s)
		for at := range 512 {
			for v := range 256 {
				n, e := fields.Sum(changed(s, at, v))
				if same := byte(v) == s[at] || !inSum(at); e != api.OK || (n == sum) != same {
					t.Fatal(at, v, n, sum, int(e))
				}
			}
		}
	}
}

// piece is some bytes of a header, and where they stand.
type piece struct {
	at   int
	text string
}

// header is a sector of pieces, noughts between them.
func header(l ...piece) string {
	b := make([]byte, 512)
	for _, p := range l {
		copy(b[p.at:], p.text)
	}
	return string(b)
}

// P15.1, P15.2, P15.4: headers that GNU tar (as v7, oldgnu and ustar have them) and Python's tarfile wrote.
func TestHeadersOfOthers(t *testing.T) {
	hello := []piece{{0, "dir/hello.txt"}, {100, "0000640"}, {108, "0001750"}, {116, "0000144"}, {124, "00000000005"}, {136, "11145401322"}}
	v7 := header(append(hello[:6:6], piece{148, "010375"}, piece{155, " "}, piece{329, "0000000"}, piece{337, "0000000"})...)
	oldgnu := header(append(hello[:6:6], piece{148, "012351"}, piece{155, " 0"}, piece{257, "ustar  "}, piece{265, "kist"}, piece{297, "users"})...)
	ustar := header(append(hello[:6:6], piece{148, "013651"}, piece{155, " 0"}, piece{257, "ustar"}, piece{263, "00kist"}, piece{297, "users"}, piece{329, "0000000"}, piece{337, "0000000"})...)
	for _, s := range []string{v7, oldgnu, ustar} {
		wantNumbers(t, s, 0640, 1000, 100, 5, 1234567890)
		wantCut(t, s[:100], "dir/hello.txt")
		wantText(t, "dir/hello.txt", 100, s[:100], api.OK)
	}
	wantCut(t, ustar[265:297], "kist")
	wantCut(t, oldgnu[297:329], "users")
	x, y := strings.Repeat("x", 60), strings.Repeat("y", 60)
	python := header(piece{0, y}, piece{100, "0004755"}, piece{108, "7777777"}, piece{116, "0000001"}, piece{124, "00000000003"}, piece{136, "77777777777"}, piece{148, "042676"}, piece{155, " 0"}, piece{257, "ustar"}, piece{263, "00u"}, piece{297, "g"}, piece{345, x})
	wantNumbers(t, python, 04755, 2097151, 1, 3, 8589934591)
	wantCut(t, python[345:500], x)
	wantText(t, x, 155, python[345:500], api.OK)
}

// wantNumbers holds a header's numbers against what its writer was told, and its sum against what it says.
func wantNumbers(t *testing.T, s string, mode, user, group, size, seconds int) {
	t.Helper()
	for _, f := range []struct{ from, to, n int }{{100, 108, mode}, {108, 116, user}, {116, 124, group}, {124, 136, size}, {136, 148, seconds}} {
		wantNumber(t, s[f.from:f.to], f.n, api.OK)
		wantOctal(t, f.n, f.to-f.from, s[f.from:f.to], api.OK)
	}
	sum, e := fields.Number(s[148:156])
	if e != api.OK {
		t.Fatal(int(e))
	}
	wantSum(t, s, sum, api.OK)
	if said := fmt.Sprintf("%06o\x00 ", sum); said != s[148:156] {
		t.Fatalf("%q, %q", said, s[148:156])
	}
}

// P15.1, P15.2, P15.4: headers that Go's own writer makes.
func TestHeadersOfGo(t *testing.T) {
	c := chain(157)
	for n := range 200 {
		name := c.text(1+n%100, "a", "b", "c", "ab")[:1+n%100]
		h := tar.Header{Typeflag: tar.TypeReg, Name: name, Mode: int64(c.next() % 4096), Uid: c.next() % 2097152, Gid: c.next() % 2097152, Size: int64(c.next() << (n % 3)), ModTime: time.Unix(int64(c.next()), 0), Uname: name[:min(len(name), 31)], Gname: "g", Format: tar.FormatUSTAR}
		var b bytes.Buffer
		if err := tar.NewWriter(&b).WriteHeader(&h); err != nil {
			t.Fatal(err)
		}
		s := b.String()
		if len(s) != 512 {
			t.Fatal(len(s))
		}
		wantNumbers(t, s, int(h.Mode), h.Uid, h.Gid, int(h.Size), int(h.ModTime.Unix()))
		wantCut(t, s[:100], name)
		wantText(t, name, 100, s[:100], api.OK)
		wantCut(t, s[265:297], h.Uname)
		wantText(t, h.Uname, 32, s[265:297], api.OK)
	}
}
