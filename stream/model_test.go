package stream_test

import (
	"fmt"
	"math"
	"strings"
	"testing"

	"kist/api"
	"kist/block"
	"kist/rle"
	"kist/stream"
)

// The model: a stream is a row of digits, cut into its parts; what a block's are is asked of block.

// What a block and the end begin with.
const (
	blockDigits = "001100010100000101011001001001100101001101011001"
	endDigits   = "000101110111001001000101001110000101000010010000"
)

// rooms are those of the levels from 1 on.
func rooms() []int {
	return []int{100000, 200000, 262144, 262144, 262144, 262144, 262144, 262144, 262144}
}

// parts are a stream's digits; fill are those up to a byte's end.
type parts struct {
	head   string
	blocks []string
	mark   string
	sum    string
	fill   string
}

// whole is the text of a stream.
func (p parts) whole() string {
	return text(p.head + strings.Join(p.blocks, "") + p.mark + p.sum + p.fill)
}

// noughts are the digits that fill a byte up.
func (p parts) noughts() string {
	n := len(p.head) + len(strings.Join(p.blocks, "")) + len(p.mark) + len(p.sum)
	return strings.Repeat("0", (8-n%8)%8)
}

// digitsOfBlock are those of a block of a text.
func digitsOfBlock(text string) string {
	b, _ := block.Make(text)
	return row(b.Text)[:b.N]
}

// ofBlocks are the parts of a stream of such blocks.
func ofBlocks(level int, blocks ...string) parts {
	sum := uint32(0)
	for _, b := range blocks {
		sum = (sum<<1 | sum>>31) ^ uint32(number(b[48:80]))
	}
	p := parts{head: row(fmt.Sprintf("BZh%d", level)), blocks: blocks, mark: endDigits, sum: fmt.Sprintf("%032b", sum)}
	p.fill = p.noughts()
	return p
}

// ofTexts are those of a stream of blocks of such texts.
func ofTexts(level int, texts ...string) parts {
	var blocks []string
	for _, s := range texts {
		blocks = append(blocks, digitsOfBlock(s))
	}
	return ofBlocks(level, blocks...)
}

// modelParts are the texts of a text's blocks, each length looked for one by one.
func modelParts(s string, most int) []string {
	var l []string
	for len(s) > 0 {
		n := 1
		for n < len(s) && len(rle.Encode(s[:n+1])) <= most {
			n++
		}
		l = append(l, s[:n])
		s = s[n:]
	}
	return l
}

func modelPack(s string, level, most int) string {
	return ofTexts(level, modelParts(s, most)...).whole()
}

// modelHead tells what is wrong with a stream's first bytes.
func modelHead(s string) api.Errno {
	for i, may := range []string{"B", "Z", "h", "123456789"} {
		switch {
		case i == len(s):
			return api.ErrShort
		case !strings.Contains(may, s[i:i+1]):
			return api.ErrStream
		}
	}
	return api.OK
}

func modelTake(s string, at int) (string, int, api.Errno) {
	if at < 0 || at > len(s) {
		return "", 0, api.ErrArg
	}
	if e := modelHead(s[at:]); e != api.OK {
		return "", 0, e
	}
	digits, place, whole, sum := row(s), 8*(at+4), "", uint32(0)
	for {
		rest := digits[place:]
		switch {
		case len(rest) < 48:
			return "", 0, api.ErrShort
		case rest[:48] == endDigits && len(rest) < 80:
			return "", 0, api.ErrShort
		case rest[:48] == endDigits && uint32(number(rest[48:80])) != sum:
			return "", 0, api.ErrSum
		case rest[:48] == endDigits:
			return whole, (place + 80 + 7) / 8, api.OK
		case rest[:48] != blockDigits:
			return "", 0, api.ErrStream
		}
		part, one, to, e := block.Take(s, place, rooms()[s[at+3]-'1'])
		if e != api.OK {
			return "", 0, e
		}
		whole += part
		if len(whole) > 262144 {
			return "", 0, api.ErrBig
		}
		place, sum = to, (sum<<1|sum>>31)^one
	}
}

func modelUnpack(s string) (string, api.Errno) {
	whole, at, e := modelTake(s, 0)
	for e == api.OK && at < len(s) {
		var more string
		more, at, e = modelTake(s, at)
		whole += more
	}
	switch {
	case e != api.OK:
		return "", e
	case len(whole) > 262144:
		return "", api.ErrBig
	}
	return whole, api.OK
}

// wantPack tells what Pack answers against what it should.
func wantPack(t *testing.T, s string, level, most int, want string, wantE api.Errno) {
	t.Helper()
	if packed, e := stream.Pack(s, level, most); packed != want || e != wantE {
		t.Fatalf("Pack(%.60q, %d, %d) of %d bytes = %d bytes %.80x, %d, not %d bytes %.80x, %d", s, level, most, len(s), len(packed), packed, int(e), len(want), want, int(wantE))
	}
}

// wantTake tells what Take answers against what it should.
func wantTake(t *testing.T, s string, at int, want string, wantTo int, wantE api.Errno) {
	t.Helper()
	if text, to, e := stream.Take(s, at); text != want || to != wantTo || e != wantE {
		t.Fatalf("Take(%.80x, %d) of %d bytes = %d bytes %.60q, %d, %d, not %d bytes %.60q, %d, %d", s, at, len(s), len(text), text, to, int(e), len(want), want, wantTo, int(wantE))
	}
}

// wantUnpack tells what Unpack answers against what it should.
func wantUnpack(t *testing.T, s, want string, wantE api.Errno) {
	t.Helper()
	if text, e := stream.Unpack(s); text != want || e != wantE {
		t.Fatalf("Unpack(%.80x) of %d bytes = %d bytes %.60q, %d, not %d bytes %.60q, %d", s, len(s), len(text), text, int(e), len(want), want, int(wantE))
	}
}

// read tells that a stream, and nothing else, is read as a text by both calls.
func read(t *testing.T, s, want string) {
	t.Helper()
	wantTake(t, s, 0, want, len(s), api.OK)
	wantUnpack(t, s, want, api.OK)
}

// refuse tells that both calls refuse a text, wherever it stands in another one's end.
func refuse(t *testing.T, s string, e api.Errno) {
	t.Helper()
	wantTake(t, s, 0, "", 0, e)
	wantTake(t, "BZh1"+s, 4, "", 0, e)
	wantUnpack(t, s, "", e)
	wantUnpack(t, ofTexts(2, "kist").whole()+s, "", e)
}

// pack packs a text that may be packed.
func pack(t *testing.T, s string, level, most int) string {
	t.Helper()
	packed, e := stream.Pack(s, level, most)
	if e != api.OK {
		t.Fatalf("%.60q of %d bytes, %d, %d: %d", s, len(s), level, most, int(e))
	}
	return packed
}

// row spells the bits of a text as digits.
func row(text string) string {
	var b strings.Builder
	for i := range len(text) {
		fmt.Fprintf(&b, "%08b", text[i])
	}
	return b.String()
}

// number reads digits.
func number(digits string) int {
	v := 0
	for i := range len(digits) {
		v = 2*v + int(digits[i]-'0')
	}
	return v
}

// text makes the bytes that digits spell, in groups that blanks may part; the last one is filled up.
func text(digits string) string {
	digits = strings.ReplaceAll(digits, " ", "")
	digits += strings.Repeat("0", (8-len(digits)%8)%8)
	var b strings.Builder
	for i := 0; i < len(digits); i += 8 {
		b.WriteByte(byte(number(digits[i : i+8])))
	}
	return b.String()
}

// flipped are digits of which the one at a place is the other one.
func flipped(digits string, at int) string {
	return digits[:at] + string('0'+'1'-rune(digits[at])) + digits[at+1:]
}

// chain is a plain rule for numbers that look mixed, the same at each run.
type chain uint64

func (c *chain) next() int {
	*c = *c*6364136223846793005 + 1442695040888963407
	return int(*c >> 33)
}

// text is one of n bytes out of letters.
func (c *chain) text(n int, letters string) string {
	var out []byte
	for range n {
		out = append(out, letters[c.next()%len(letters)])
	}
	return string(out)
}

// runs is a text of n bytes in runs, each of at most long.
func (c *chain) runs(n, long int, letters string) string {
	var b strings.Builder
	for b.Len() < n {
		at := c.next() % len(letters)
		b.WriteString(strings.Repeat(letters[at:at+1], min(1+c.next()%long, n-b.Len())))
	}
	return b.String()
}

// all are the bytes that there are, rising.
func all() string {
	var out []byte
	for v := range 256 {
		out = append(out, byte(v))
	}
	return string(out)
}

// flat is a text of n bytes that is as long as its RLE text.
func flat(n int) string {
	return (strings.Repeat("kist keeps files; ", n/18) + "kist keeps files; ")[:n]
}

// run is one whose RLE text is short, so that it is quickly packed and read.
func run(n int) string { return strings.Repeat("r", n) }

// texts are those that each call is held against the model with.
func texts() []string {
	l := []string{"", "a", "aa", "banana", "\x00", "\xff\x00\xff", "\xe2\x82\xac\xe2\x82", all(), "BZh1", blockDigits}
	for _, n := range []int{3, 4, 5, 6, 254, 255, 256, 258, 259, 260, 510, 511} {
		l = append(l, strings.Repeat("x", n), "y"+strings.Repeat("\x00", n), strings.Repeat("\xff", n)+"z")
	}
	c := chain(131)
	for _, kinds := range []string{"ab", "\x00\xff", "etaoin shrdlu", all()} {
		for n := 1; n < 500; n = 2*n + 3 {
			l = append(l, c.text(n, kinds), c.runs(n, 6, kinds), c.runs(n, 300, kinds))
		}
	}
	return l
}

// wrongLevels are those that there are not.
func wrongLevels() []int {
	return []int{0, 10, 11, -1, -9, '1', '9', 256 + 1, math.MinInt, math.MinInt + 1, math.MinInt32, math.MaxInt32, math.MaxInt, 1<<32 + 1, -1<<32 + 9, 1 << 47}
}

// wrongMosts are those that no block may have at a level.
func wrongMosts(level int) []int {
	room := rooms()[level-1]
	return []int{0, -1, -room, room + 1, room + 2, 2*room + 1, 900000, 900001, 1 << 30, math.MinInt, math.MinInt + 1, math.MinInt32, math.MaxInt32, math.MaxInt, 1 << 32, 1<<32 + 1, -1<<32 + 1}
}

// wrongPlaces are those where no stream may begin in a text of n bytes.
func wrongPlaces(n int) []int {
	return []int{-1, -2, -n - 1, n + 1, n + 2, 2*n + 3, 8*n + 1, math.MinInt, math.MinInt + 1, math.MinInt32, math.MaxInt32, math.MaxInt - 1, math.MaxInt, 1 << 32, 1 << 61, 1<<61 + 1, -1 << 61}
}
