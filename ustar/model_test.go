package ustar_test

import (
	"fmt"
	"strconv"
	"strings"
	"testing"

	"kist/api"
	"kist/ustar"
)

// span is where a field stands in a header: from a byte on, up to another one.
type span struct{ from, to int }

// The places of the fields, as POSIX.1 numbers them.
var (
	nameAt   = span{0, 100}
	modeAt   = span{100, 108}
	userAt   = span{108, 116}
	groupAt  = span{116, 124}
	sizeAt   = span{124, 136}
	timeAt   = span{136, 148}
	sumAt    = span{148, 156}
	kindAt   = span{156, 157}
	linkAt   = span{157, 257}
	markAt   = span{257, 265}
	unameAt  = span{265, 297}
	gnameAt  = span{297, 329}
	deviceAt = span{329, 345}
	prefixAt = span{345, 500}
	spareAt  = span{500, 512}
)

func (p span) of(s string) string { return s[p.from:p.to] }

func (p span) width() int { return p.to - p.from }

// The model: a sector of bytes that each field is written into at its place, and read from there.

func modelSum(s string) int {
	n := 0
	for i, v := range []byte(s) {
		if i >= sumAt.from && i < sumAt.to {
			v = ' '
		}
		n += int(v)
	}
	return n
}

// laid is a sector with a text in a field, and noughts behind it there.
func laid(s string, at span, text string) string {
	return s[:at.from] + text + noughts(at.width()-len(text)) + s[at.to:]
}

// summed is a sector with its sum in its field.
func summed(s string) string { return laid(s, sumAt, fmt.Sprintf("%06o\x00 ", modelSum(s))) }

// parted is a path as a header has it, ahead of the slash and behind it.
func parted(p string) (ahead, behind string, ok bool) {
	if len(p) <= 100 {
		return "", p, true
	}
	for i := 1; i < len(p)-1 && i <= 155; i++ {
		if p[i] == '/' && len(p[i+1:]) <= 100 {
			return p[:i], p[i+1:], true
		}
	}
	return "", "", false
}

func modelEncode(h api.Head) (string, api.Errno) {
	ahead, behind, ok := parted(h.Path)
	if !ok || len(h.Path) == 0 {
		return "", api.ErrPath
	}
	s := noughts(512)
	for _, f := range []struct {
		at   span
		text string
		most int
	}{{nameAt, behind, 100}, {linkAt, h.Link, 100}, {unameAt, h.Names[0], 31}, {gnameAt, h.Names[1], 31}, {prefixAt, ahead, 155}} {
		if len(f.text) > f.most || strings.Contains(f.text, "\x00") {
			return "", api.ErrHeader
		}
		s = laid(s, f.at, f.text)
	}
	for _, f := range []struct {
		at       span
		n, above int
	}{{modeAt, h.Mode, 2097152}, {userAt, h.Ids[0], 2097152}, {groupAt, h.Ids[1], 2097152}, {sizeAt, h.Size, 8589934592}, {timeAt, h.Time, 8589934592}} {
		if f.n < 0 || f.n >= f.above {
			return "", api.ErrHeader
		}
		s = laid(s, f.at, fmt.Sprintf("%0*o", f.at.width()-1, f.n))
	}
	switch h.Kind {
	case '0', '5', 'x', 'g':
	default:
		return "", api.ErrHeader
	}
	s = laid(s, kindAt, byteText(int(h.Kind)))
	s = laid(s, markAt, "ustar\x0000")
	s = laid(s, deviceAt, "0000000\x000000000")
	return summed(s), api.OK
}

// said is what a field of a number says.
func said(field string) (int, bool) {
	digits := strings.TrimLeft(strings.TrimRight(field, " \x00"), " ")
	if digits == "" {
		return 0, true
	}
	n, err := strconv.ParseUint(digits, 8, 62)
	return int(n), err == nil
}

// told is what a field of a text says.
func told(field string) string { return strings.SplitN(field, "\x00", 2)[0] }

func modelDecode(s string) (api.Head, api.Errno) {
	if len(s) != 512 || s[257:263] != "ustar\x00" || s[263:265] != "00" {
		return api.Head{}, api.ErrHeader
	}
	var n [6]int
	for i, at := range []span{modeAt, userAt, groupAt, sizeAt, timeAt, sumAt} {
		v, ok := said(at.of(s))
		if !ok {
			return api.Head{}, api.ErrHeader
		}
		n[i] = v
	}
	path := told(nameAt.of(s))
	if s[345] != 0 {
		path = told(prefixAt.of(s)) + "/" + path
	}
	if n[5] != modelSum(s) || path == "" {
		return api.Head{}, api.ErrHeader
	}
	kind := s[156]
	if kind == 0 {
		kind = 48
	}
	return api.Head{Path: path, Size: n[3], Kind: kind, Mode: n[0], Time: n[4], Link: told(linkAt.of(s)), Names: [2]string{told(unameAt.of(s)), told(gnameAt.of(s))}, Ids: [2]int{n[1], n[2]}}, api.OK
}

// wantEncode holds what Encode answers against what it should.
func wantEncode(t *testing.T, h api.Head, want string, wantE api.Errno) {
	t.Helper()
	if s, e := ustar.Encode(h); s != want || e != wantE {
		t.Fatalf("Encode(%+v) = %q, %d; not %q, %d", h, s, int(e), want, int(wantE))
	}
}

// wantDecode holds what Decode answers against what it should.
func wantDecode(t *testing.T, s string, want api.Head, wantE api.Errno) {
	t.Helper()
	if h, e := ustar.Decode(s); h != want || e != wantE {
		t.Fatalf("Decode of %d bytes (%.520q) = %+v, %d; not %+v, %d", len(s), s, h, int(e), want, int(wantE))
	}
}

// wantNone holds that a text is no header.
func wantNone(t *testing.T, s string) {
	t.Helper()
	wantDecode(t, s, api.Head{}, api.ErrHeader)
}

// likeEncode holds Encode against the model.
func likeEncode(t *testing.T, h api.Head) {
	t.Helper()
	s, e := modelEncode(h)
	wantEncode(t, h, s, e)
}

// likeDecode holds Decode against the model.
func likeDecode(t *testing.T, s string) {
	t.Helper()
	h, e := modelDecode(s)
	wantDecode(t, s, h, e)
}

// byteText is a text of one byte.
func byteText(v int) string { return string([]byte{byte(v)}) }

// noughts are n bytes 0.
func noughts(n int) string { return strings.Repeat("\x00", n) }

// letters are n of one letter.
func letters(letter string, n int) string { return strings.Repeat(letter, n) }

// file is a head that may be, each field of it another one than in an empty head.
func file() api.Head {
	return api.Head{Path: "dir/hello.txt", Size: 5, Kind: '0', Mode: 0640, Time: 1234567890, Link: "to", Names: [2]string{"kist", "users"}, Ids: [2]int{1000, 100}}
}

// byHand is a head of which nothing is empty, and its header field by field.
func byHand() (api.Head, string) {
	h := file()
	h.Path = letters("x", 60) + "/" + letters("y", 60)
	h.Kind = '5'
	return h, letters("y", 60) + noughts(40) +
		"0000640\x00" + "0001750\x00" + "0000144\x00" +
		"00000000005\x00" + "11145401322\x00" +
		"045775\x00 " +
		"5" + "to" + noughts(98) +
		"ustar\x00" + "00" + "kist" + noughts(28) + "users" + noughts(27) +
		"0000000\x00" + "0000000\x00" +
		letters("x", 60) + noughts(95) + noughts(12)
}

// chain is a plain rule for numbers that look mixed, the same at each run.
type chain uint64

func (c *chain) next() int {
	*c = *c*6364136223846793005 + 1442695040888963407
	return int(*c >> 33)
}

// text is one of n bytes, none of them 0.
func (c *chain) text(n int) string {
	b := make([]byte, n)
	for i := range b {
		b[i] = byte(c.next()%255 + 1)
	}
	return string(b)
}

// number is one below 8 to that power, great ones and small ones.
func (c *chain) number(digits int) int {
	n := (c.next()<<31 | c.next()) % (1 << (3 * digits))
	return n >> (c.next() % (3*digits + 1))
}

// head is one that may be.
func (c *chain) head() api.Head {
	path := c.text(1 + c.next()%100)
	if c.next()%2 == 0 {
		path = strings.ReplaceAll(c.text(1+c.next()%155), "/", "-") + "/" + path
	}
	return api.Head{
		Path: path, Size: c.number(11), Kind: "05xg"[c.next()%4], Mode: c.number(7), Time: c.number(11), Link: c.text(c.next() % 101),
		Names: [2]string{c.text(c.next() % 32), c.text(c.next() % 32)}, Ids: [2]int{c.number(7), c.number(7)},
	}
}
