package block_test

import (
	"fmt"
	"math"
	"strings"
	"testing"

	"kist/api"
	"kist/bits"
	"kist/block"
	"kist/bwt"
	"kist/crc"
	"kist/groups"
	"kist/rle"
	"kist/symbols"
	"kist/zrun"
)

// The model: a block is a row of digits, cut into its parts; what lower layers tell is asked of them, each for its own part.

// markDigits are what a block begins with.
const markDigits = "0011 0001 0100 0001 0101 1001 0010 0110 0101 0011 0101 1001"

// headBits is how many bits stand ahead of the symbols in use.
const headBits = 105

// parts are a block's digits.
type parts struct {
	mark, sum, mixed, row, used, plan, list string
}

// whole are all digits of a block.
func (p parts) whole() string {
	return strings.ReplaceAll(p.mark+p.sum+p.mixed+p.row+p.used+p.plan+p.list, " ", "")
}

func (p parts) bits() api.Bits { return piece(p.whole()) }

// with is a block of which something is another.
func (p parts) with(change func(*parts)) parts {
	change(&p)
	return p
}

// ofSymbols are the parts of a block of such symbols, as they come out of groups' Best.
func ofSymbols(sum uint32, at int, used string, list []int) parts {
	plan, _ := groups.Best(list, len(used)+2)
	return byPlan(sum, at, used, plan, list)
}

// byPlan are the parts of a block of such symbols by a plan.
func byPlan(sum uint32, at int, used string, plan api.Plan, list []int) parts {
	shownUsed, _ := symbols.Show(used)
	shownPlan, _ := groups.Show(plan)
	coded, _ := groups.Put(plan, list)
	return parts{markDigits, fmt.Sprintf("%032b", sum), "0", fmt.Sprintf("%024b", at), digitsOf(shownUsed), digitsOf(shownPlan), digitsOf(coded)}
}

// ofColumn are the parts of a block of such a last column.
func ofColumn(sum uint32, at int, last string) parts {
	used := symbols.Of(last)
	places, _ := symbols.Front(last, used)
	list, _ := zrun.Encode(len(used), places...)
	return ofSymbols(sum, at, used, list)
}

// ofShort are the parts of a block of what rle tells, which need not be what it would tell.
func ofShort(sum uint32, short string) parts {
	last, at, _ := bwt.Forward(short)
	return ofColumn(sum, at, last)
}

// partsOf are the parts of a text's block.
func partsOf(text string) parts { return ofShort(crc.Bzip(text), rle.Encode(text)) }

func modelMake(s string) (api.Bits, api.Errno) {
	switch {
	case s == "":
		return api.Bits{}, api.ErrArg
	case len(rle.Encode(s)) > api.MaxText:
		return api.Bits{}, api.ErrBig
	}
	return partsOf(s).bits(), api.OK
}

// modelHead tells what is wrong with a block's first digits.
func modelHead(digits string) api.Errno {
	mark := strings.ReplaceAll(markDigits, " ", "")
	switch {
	case len(digits) >= 48 && digits[:48] != mark, len(digits) >= 81 && digits[80] == '1':
		return api.ErrBlock
	case len(digits) < headBits:
		return api.ErrShort
	}
	return api.OK
}

// modelTake reads a block whose text's digits are told, too.
func modelTake(s, digits string, at, most int) (string, uint32, int, api.Errno) {
	if at < 0 || at > len(digits) || most < 1 || most > api.MaxText {
		return "", 0, 0, api.ErrArg
	}
	if e := modelHead(digits[at:]); e != api.OK {
		return "", 0, 0, e
	}
	used, behindUsed, e1 := symbols.Take(s, at+headBits)
	plan, behindPlan, e2 := groups.Take(s, behindUsed, len(used)+2)
	list, to, e3 := groups.Get(plan, s, behindPlan)
	places, e4 := zrun.Decode(len(used), most, list...)
	last, _ := symbols.Back(places, used)
	short, e5 := bwt.Back(last, number(digits[at+81:at+headBits]))
	text, e6 := rle.Decode(short)
	sum := uint32(number(digits[at+48 : at+80]))
	for _, e := range []api.Errno{e1, e2, e3, e4, e5, e6} {
		if e != api.OK {
			return "", 0, 0, e
		}
	}
	if crc.Bzip(text) != sum {
		return "", 0, 0, api.ErrSum
	}
	return text, sum, to, api.OK
}

// wantMake tells what Make answers against what it should.
func wantMake(t *testing.T, s string, want api.Bits, wantE api.Errno) {
	t.Helper()
	if b, e := block.Make(s); b != want || e != wantE {
		t.Fatalf("Make(%.60q) of %d bytes = %d bits %.80x, %d, not %d bits %.80x, %d", s, len(s), b.N, b.Text, int(e), want.N, want.Text, int(wantE))
	}
}

// wantTake tells what Take answers against what it should.
func wantTake(t *testing.T, s string, at, most int, want string, wantSum uint32, wantTo int, wantE api.Errno) {
	t.Helper()
	text, sum, to, e := block.Take(s, at, most)
	if text != want || sum != wantSum || to != wantTo || e != wantE {
		t.Fatalf("Take(%.80x, %d, %d) of %d bytes = %.60q, %x, %d, %d, not %.60q, %x, %d, %d", s, at, most, len(s), text, sum, to, int(e), want, wantSum, wantTo, int(wantE))
	}
}

// wantText tells that a block is read as a text, at bit number at of s.
func wantText(t *testing.T, s string, at, most int, want string, n int) {
	t.Helper()
	wantTake(t, s, at, most, want, crc.Bzip(want), at+n, api.OK)
}

// refuse tells that digits are no block, where they stand at a text's end, so that behind them there is no bit.
func refuse(t *testing.T, digits string, most int, e api.Errno) {
	t.Helper()
	digits = strings.ReplaceAll(digits, " ", "")
	ahead := (8 - len(digits)%8) % 8
	text := piece(strings.Repeat("1", ahead) + digits).Text
	wantTake(t, text, ahead, most, "", 0, 0, e)
}

// row spells the bits of a text as digits.
func row(text string) string {
	var b strings.Builder
	for i := range len(text) {
		fmt.Fprintf(&b, "%08b", text[i])
	}
	return b.String()
}

func digitsOf(b api.Bits) string { return row(b.Text)[:b.N] }

// number reads digits.
func number(digits string) int {
	v := 0
	for i := range len(digits) {
		v = 2*v + int(digits[i]-'0')
	}
	return v
}

// piece makes the bits that digits spell, in groups that blanks may part.
func piece(digits string) api.Bits {
	digits = strings.ReplaceAll(digits, " ", "")
	full := digits + strings.Repeat("0", (8-len(digits)%8)%8)
	var b strings.Builder
	for i := 0; i < len(full); i += 8 {
		b.WriteByte(byte(number(full[i : i+8])))
	}
	return api.Bits{Text: b.String(), N: len(digits)}
}

// between tells the text of bits with others ahead of and behind them.
func between(ahead string, b api.Bits, behind string) string {
	j, _ := bits.Join(piece(ahead), b, piece(behind))
	return j.Text
}

// flipped are digits of which the one at a place is the other one.
func flipped(digits string, at int) string {
	return digits[:at] + string('0'+'1'-rune(digits[at])) + digits[at+1:]
}

// chain is a plain rule for numbers that look mixed, the same at each run.
type chain uint64

func (c *chain) next() int {
	*c = *c*6364136223846793005 + 1442695040888963407
	return int(*c >> 33)
}

// text is one of n bytes out of letters.
func (c *chain) text(n int, letters string) string {
	var out []byte
	for range n {
		out = append(out, letters[c.next()%len(letters)])
	}
	return string(out)
}

// runs is a text of n bytes in runs, each of at most long.
func (c *chain) runs(n, long int, letters string) string {
	var b strings.Builder
	for b.Len() < n {
		at := c.next() % len(letters)
		b.WriteString(strings.Repeat(letters[at:at+1], min(1+c.next()%long, n-b.Len())))
	}
	return b.String()
}

// letters is a text of n bytes of so many kinds, in stretches of which each is mixed in its own way.
func letters(seed, n, kinds int) string {
	c := chain(seed)
	var b strings.Builder
	for b.Len() < n {
		stretch, low := 20+c.next()%100, c.next()%kinds
		for range min(stretch, n-b.Len()) {
			b.WriteByte(byte('a' + (low+c.next()%(1+c.next()%kinds))%kinds))
		}
	}
	return b.String()
}

// all are the bytes that there are, rising.
func all() string {
	var out []byte
	for v := range 256 {
		out = append(out, byte(v))
	}
	return string(out)
}

// allTexts are those of at most n bytes that stand in letters, but the one that is empty.
func allTexts(letters string, n int) []string {
	l := []string{""}
	for from := 0; n > 0; n-- {
		to := len(l)
		for _, s := range l[from:to] {
			for i := range len(letters) {
				l = append(l, s+letters[i:i+1])
			}
		}
		from = to
	}
	return l[1:]
}

// texts are those that each call is held against the model with.
func texts() []string {
	l := []string{"a", "banana", "mississippi", "abab", "\x00", "\xff\x00\xff", "\xe2\x82\xac\xe2\x82", all(), all() + all(), strings.Repeat(all(), 9), strings.Repeat("ab", 150) + "a"}
	for _, n := range []int{3, 4, 5, 6, 254, 255, 256, 258, 259, 260, 510, 511, 1000, 100000} {
		l = append(l, strings.Repeat("x", n), "y"+strings.Repeat("\x00", n), strings.Repeat("\xff", n)+"z")
	}
	c := chain(121)
	for _, kinds := range []string{"ab", "abc", "\x00\xff", "etaoin shrdlu", all()} {
		for n := 1; n < 6000; n = 2*n + 3 {
			l = append(l, c.text(n, kinds), c.runs(n, 6, kinds), c.runs(n, 600, kinds))
		}
	}
	for kinds := 1; kinds <= 256; kinds += 15 {
		l = append(l, letters(kinds, 20*kinds, kinds))
	}
	return append(l, allTexts("ab", 7)...)
}

// atLimit are texts whose RLE texts have MaxText bytes. A run of four, or of 255, is five bytes there, so that these have as many runs as a fifth of it.
func atLimit(t *testing.T) map[string]string {
	t.Helper()
	const n, fifth = api.MaxText, api.MaxText / 5
	c := chain(122)
	l := map[string]string{
		"two bytes":    strings.Repeat("ab", n/2),
		"mixed":        c.shorts(n, all()),
		"rising":       strings.Repeat(all(), n/256),
		"few kinds":    (strings.Repeat("aabacbc", 30) + strings.Repeat(c.shorts(5000, "etaoin shrdlu"), n/5000+1))[:n],
		"a run behind": c.shorts(n-5, "abcdefgh") + "xxxx",
		"fours":        strings.Repeat("aaaabbbbcccc", fifth/3) + "wxyz",
		"longest runs": strings.Repeat("a", fifth*255) + "wxyz",
	}
	for name, s := range l {
		if got := len(rle.Encode(s)); got != n {
			t.Fatal(name, got)
		}
	}
	return l
}

// shorts is a text of n bytes in which no two neighbours are one.
func (c *chain) shorts(n int, letters string) string {
	var out []byte
	at := 0
	for range n {
		at = (at + 1 + c.next()%(len(letters)-1)) % len(letters)
		out = append(out, letters[at])
	}
	return string(out)
}

// wrongMosts are those that no text may have at most.
func wrongMosts() []int {
	return []int{0, -1, -2, -api.MaxText, api.MaxText + 1, api.MaxText + 2, 2 * api.MaxText, math.MinInt, math.MinInt + 1, math.MinInt32, math.MaxInt32, math.MaxInt, 1 << 32, 1<<32 + 1, -1<<32 + 1}
}

// wrongPlaces are those that a text of n bytes has no bit at, nor an end.
func wrongPlaces(n int) []int {
	bitsOf := 8 * n
	return []int{-1, -2, -8, -bitsOf - 1, bitsOf + 1, bitsOf + 2, bitsOf + 8, 2*bitsOf + 3, math.MinInt, math.MinInt + 1, math.MinInt32, math.MaxInt32, math.MaxInt - 1, math.MaxInt, 1 << 32, 1 << 61}
}
