package ustar_test

import (
	"fmt"
	"strings"
	"testing"

	"kist/api"
	"kist/ustar"
)

// header is what Encode makes of a head.
func header(t *testing.T, h api.Head) string {
	t.Helper()
	s, e := ustar.Encode(h)
	if e != api.OK || len(s) != 512 {
		t.Fatalf("Encode(%+v) = %q, %d", h, s, int(e))
	}
	return s
}

// P16.2
func TestDecodeOfTheExamples(t *testing.T) {
	wantNone(t, noughts(512))
}

// P16.2: each field from a place of its own.
func TestDecodeByHand(t *testing.T) {
	want, s := byHand()
	wantDecode(t, s, want, api.OK)
}

// P16.2: a sector has 512 bytes.
func TestDecodeOfLengths(t *testing.T) {
	s := header(t, file())
	for n := range 512 {
		wantNone(t, s[:n])
		wantNone(t, s[n+1:])
		wantNone(t, s+s[:n+1])
		wantNone(t, s+noughts(n+1))
		wantNone(t, noughts(n+1)+s)
	}
	wantDecode(t, s, file(), api.OK)
}

// P16.2: the letters, the byte 0 and the digits, where they belong.
func TestDecodeOfMarks(t *testing.T) {
	s := header(t, file())
	for at := range markAt.width() {
		for v := range 256 {
			mark := markAt.of(s)
			mark = mark[:at] + byteText(v) + mark[at+1:]
			other := summed(laid(s, markAt, mark))
			if other == s {
				wantDecode(t, other, file(), api.OK)
			} else {
				wantNone(t, other)
			}
		}
	}
	for _, mark := range []string{"", "ustar", "ustar  ", "ustar\x00", "ustar00", "ustar\x0001", "ustar\x0010", "ustar\x00 0", "USTAR\x0000", "ustar 00", "\x00ustar00", "star\x0000"} {
		wantNone(t, summed(laid(s, markAt, mark)))
	}
}

// sums are the ways in which a field of eight bytes says a number, and some in which it does not.
func sums(n int) (right, wrong []string) {
	right = []string{fmt.Sprintf("%06o\x00 ", n), fmt.Sprintf("%06o \x00", n), fmt.Sprintf("%07o\x00", n), fmt.Sprintf("%07o ", n), fmt.Sprintf("%08o", n), fmt.Sprintf("%8o", n), fmt.Sprintf("%7o ", n), fmt.Sprintf("%o", n), fmt.Sprintf(" %o ", n)}
	wrong = []string{fmt.Sprintf("%06o\x00 ", n-1), fmt.Sprintf("%06o\x00 ", n+1), fmt.Sprintf("%06o\x00 ", n+8), fmt.Sprintf("%06o\x00 ", n-256), fmt.Sprintf("%06o\x00 ", n+256), fmt.Sprintf("%06d\x00 ", n), fmt.Sprintf("%06x\x00 ", n), "", letters(" ", 8), letters("0", 8), letters("7", 8), fmt.Sprintf("\x00%06o ", n), fmt.Sprintf("%o\x001", n), fmt.Sprintf("+%06o ", n), fmt.Sprintf("-%06o ", n), fmt.Sprintf("%06o\x00-", n), fmt.Sprintf("%06oa ", n), fmt.Sprintf("%06o8 ", n)}
	return right, wrong
}

// P16.2: the sum may be written in several ways, but it must be the sum.
func TestDecodeOfSums(t *testing.T) {
	for _, h := range []api.Head{file(), {Path: letters("\xff", 155) + "/" + letters("\xfe", 100), Kind: 'g'}, {Path: "a", Kind: '0'}} {
		s := header(t, h)
		right, wrong := sums(modelSum(s))
		for _, field := range right {
			wantDecode(t, laid(s, sumAt, field), h, api.OK)
		}
		for _, field := range wrong {
			wantNone(t, laid(s, sumAt, field))
		}
		for n := range 1 << 18 {
			if field := fmt.Sprintf("%06o\x00 ", n); field != sumAt.of(s) && n%7 == 0 {
				wantNone(t, laid(s, sumAt, field))
			}
		}
	}
}

// P16.2: bytes above 127 are no numbers below 0.
func TestDecodeOfSumsOfSignedBytes(t *testing.T) {
	h := file()
	h.Path = "\xff\x80"
	s := header(t, h)
	wantDecode(t, s, h, api.OK)
	wantNone(t, laid(s, sumAt, fmt.Sprintf("%06o\x00 ", modelSum(s)-2*256)))
}

// P16.2: each byte at each place of each number.
func TestDecodeOfBytesOfNumbers(t *testing.T) {
	for _, f := range numberFields() {
		for _, h := range []api.Head{file(), {Path: "a", Kind: 'x'}} {
			s := header(t, h)
			for at := f.at.from; at < f.at.to; at++ {
				for v := range 256 {
					likeDecode(t, summed(s[:at]+byteText(v)+s[at+1:]))
				}
			}
		}
	}
	s := header(t, file())
	for at := sumAt.from; at < sumAt.to; at++ {
		for v := range 256 {
			likeDecode(t, s[:at]+byteText(v)+s[at+1:])
		}
	}
}

// P16.2: what Number reads.
func TestDecodeOfNumbers(t *testing.T) {
	for _, f := range numberFields() {
		w := f.at.width()
		for field, want := range map[string]int{
			"": 0, letters(" ", w): 0, " ": 0, letters("0", w): 0, letters("7", w): 1<<(3*w) - 1, "1" + letters("0", w-1): 1 << (3*w - 3), letters(" ", w-1) + "7": 7, letters(" ", w-2) + "17": 15,
			"7": 7, "17 ": 15, " 17 ": 15, "  17\x00 ": 15, "17\x00\x00 \x00": 15, "0000017": 15, "017": 15,
		} {
			h := file()
			*f.of(&h) = want
			wantDecode(t, summed(laid(header(t, file()), f.at, field)), h, api.OK)
		}
		for _, field := range []string{"8", "9", "a", "-1", "+1", "-", "1 1", "1\x001", "\x001", " \x001", "\x80\x00\x00\x00\x00\x00\x00\x01", letters("\xff", w), "1.", "0x1", "1\n", "\t1", "\xb2", letters("7", w-1) + "8", letters("0", w-1) + "/", letters("0", w-1) + ":"} {
			wantNone(t, summed(laid(header(t, file()), f.at, field)))
		}
	}
}

// P16.2: what stands where a device's numbers are, and behind the prefix, isn't read.
func TestDecodeOfWhatIsNotRead(t *testing.T) {
	s := header(t, file())
	for _, at := range []span{deviceAt, spareAt} {
		for i := at.from; i < at.to; i++ {
			for v := range 256 {
				wantDecode(t, summed(s[:i]+byteText(v)+s[i+1:]), file(), api.OK)
			}
		}
		for _, field := range []string{"", "8", letters("\xff", at.width()), letters(" ", at.width()), letters("9", at.width())} {
			wantDecode(t, summed(laid(s, at, field)), file(), api.OK)
		}
	}
}

// P16.2: any kind, a byte 0 as the digit.
func TestDecodeOfKinds(t *testing.T) {
	s := header(t, file())
	for v := range 256 {
		h := file()
		h.Kind = byte(v)
		if v == 0 {
			h.Kind = '0'
		}
		wantDecode(t, summed(laid(s, kindAt, byteText(v))), h, api.OK)
	}
}

// P16.2: texts end at their first byte 0, or with their field.
func TestDecodeOfTexts(t *testing.T) {
	s := header(t, file())
	for _, f := range textFields() {
		w := f.at.width()
		for n := range w + 1 {
			for _, rest := range []string{"", "\x00", "\x00a", "\x00" + letters("z", w), "\x00 \x00a"} {
				h := file()
				*f.of(&h) = letters("\xe9", n)
				field := (letters("\xe9", n) + rest + noughts(w))[:w]
				wantDecode(t, summed(laid(s, f.at, field)), h, api.OK)
			}
		}
		for v := 1; v < 256; v++ {
			h := file()
			*f.of(&h) = "a" + byteText(v) + "b"
			wantDecode(t, summed(laid(s, f.at, "a"+byteText(v)+"b")), h, api.OK)
		}
	}
}

// P16.2: a path is a name, behind a prefix and a slash if there is a prefix.
func TestDecodeOfPaths(t *testing.T) {
	s := header(t, file())
	for prefix, wantPrefix := range map[string]string{"": "", "\x00": "", "\x00p": "", "p": "p/", "p/": "p//", "/": "//", "p\x00q": "p/", "..": "../", " ": " /", letters("p", 155): letters("p", 155) + "/", letters("p/q", 50): letters("p/q", 50) + "/"} {
		for name, want := range map[string]string{"": "", "\x00n": "", "n": "n", "/": "/", "/n/": "/n/", "n\x00m": "n", ".": ".", "\xff": "\xff", letters("n", 99): letters("n", 99), letters("n", 100): letters("n", 100), letters("n", 50) + "\x00" + letters("m", 49): letters("n", 50)} {
			h := file()
			h.Path = wantPrefix + want
			other := summed(laid(laid(s, nameAt, name), prefixAt, prefix))
			if h.Path == "" {
				wantNone(t, other)
			} else {
				wantDecode(t, other, h, api.OK)
			}
		}
	}
}

// P16.2: headers of all kinds of bytes.
func TestDecodeAsTheModel(t *testing.T) {
	c := chain(162)
	pieces := []string{"0", "7", " ", "\x00", "a", "/", "8", "\xff", "ustar", "1", "\x00\x00\x00"}
	for range 20000 {
		s := header(t, c.head())
		for range 1 + c.next()%3 {
			at, piece := c.next()%500, pieces[c.next()%len(pieces)]
			s = s[:at] + piece + s[at+len(piece):]
		}
		likeDecode(t, s)
		if at := c.next() % 4; at > 0 { // the sum again, most of the time
			s = summed(s)
		}
		likeDecode(t, s)
	}
	for range 2000 {
		s := c.text(512)
		wantNone(t, s)
		likeDecode(t, summed(laid(s, markAt, "ustar\x0000")))
	}
}

// P16.4
func TestDecodeOfEncode(t *testing.T) {
	c := chain(164)
	for range 5000 {
		h := c.head()
		wantDecode(t, header(t, h), h, api.OK)
	}
	for _, path := range []string{"a", "/", "//", "a/", "/a", "..", letters("/", 100), letters("/", 101), letters("/", 256), letters("a", 155) + "/" + letters("b", 100), letters("a", 155) + "//" + letters("b", 99), letters("a", 100) + "/b", "a/" + letters("/", 99) + "b"} {
		for _, kind := range []byte("05xg") {
			h := api.Head{Path: path, Kind: kind}
			wantDecode(t, header(t, h), h, api.OK)
		}
	}
}

// P16.5: each other byte at each place out of the sum's.
func TestDecodeOfATurnedByte(t *testing.T) {
	c := chain(165)
	l := []api.Head{file(), {Path: "a", Kind: '0'}, {Path: letters("x", 60) + "/" + letters("y", 60), Kind: 'x', Size: 100}, c.head()}
	for _, h := range l {
		s := header(t, h)
		if c.next()%2 == 0 { // numbers of a device, and bytes behind the prefix
			s = summed(laid(laid(s, deviceAt, "12"), spareAt, "ab"))
		}
		wantDecode(t, s, h, api.OK)
		for at := range s {
			if at >= sumAt.from && at < sumAt.to {
				continue
			}
			for v := range 256 {
				if byte(v) != s[at] {
					wantNone(t, s[:at]+byteText(v)+s[at+1:])
				}
			}
		}
	}
}

// P16.3
func TestZero(t *testing.T) {
	for n := range 1600 {
		if got := ustar.Zero(noughts(n)); got != (n == 512) {
			t.Fatal(n, got)
		}
		if ustar.Zero(letters("0", n)) || ustar.Zero(letters(" ", n)) {
			t.Fatal(n)
		}
	}
	none := noughts(512)
	for at := range 512 {
		for v := range 256 {
			if ustar.Zero(none[:at]+byteText(v)+none[at+1:]) != (v == 0) {
				t.Fatal(at, v)
			}
		}
	}
	if ustar.Zero(header(t, file())) || ustar.Zero(strings.Repeat("\x00", 1<<20)) {
		t.Fatal("a header, much")
	}
}
