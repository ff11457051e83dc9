package prefix_test

import (
	"math"
	"math/big"
	"slices"
	"strings"

	"kist/api"
	"kist/bits"
	"kist/lengths"
)

// The model: codes spelled as digits, each made of the one ahead of it by a sum on paper, and looked through one by one at each bit.

// modelCheck tells whether lengths may be, in fractions.
func modelCheck(l []int) bool {
	sum := new(big.Rat)
	for _, k := range l {
		if k < 1 || k > 20 {
			return false
		}
		sum.Add(sum, big.NewRat(1, 1<<k))
	}
	return len(l) > 1 && len(l) < 259 && sum.Cmp(big.NewRat(1, 1)) <= 0
}

// andOne spells the number above the one that is spelled.
func andOne(digits string) string {
	zero := strings.LastIndexByte(digits, '0')
	return digits[:zero] + "1" + strings.Repeat("0", len(digits)-zero-1)
}

// modelCodes spells the codes of lengths that may be.
func modelCodes(l []int) []string {
	codes := make([]string, len(l))
	last := ""
	for k := 1; k <= 20; k++ {
		for s := range l {
			if l[s] != k {
				continue
			}
			if last == "" {
				last = strings.Repeat("0", k)
			} else {
				last = andOne(last)
				last += strings.Repeat("0", k-len(last))
			}
			codes[s] = last
		}
	}
	return codes
}

// modelEncode spells symbols in such codes.
func modelEncode(codes []string, list []int) (string, api.Errno) {
	digits := ""
	for _, s := range list {
		if s < 0 || s > len(codes)-1 {
			return "", api.ErrSymbol
		}
		digits += codes[s]
	}
	return digits, api.OK
}

// modelDecode reads a symbol out of digits.
func modelDecode(codes []string, digits string, at int) (int, int, api.Errno) {
	if at < 0 || at > len(digits) {
		return 0, 0, api.ErrArg
	}
	for to := at; ; to++ {
		read := digits[at:to]
		if s := slices.Index(codes, read); s >= 0 {
			return s, to, api.OK
		}
		if !slices.ContainsFunc(codes, func(c string) bool { return strings.HasPrefix(c, read) }) {
			return 0, 0, api.ErrCode
		}
		if to == len(digits) {
			return 0, 0, api.ErrShort
		}
	}
}

// modelAll reads some symbols, one by one.
func modelAll(codes []string, digits string, at, n, end int) ([]int, int, api.Errno) {
	if at < 0 || at > len(digits) || n < 0 {
		return nil, 0, api.ErrArg
	}
	var list []int
	for ; n > 0; n-- {
		s, to, e := modelDecode(codes, digits, at)
		if e != api.OK {
			return nil, 0, e
		}
		list, at = append(list, s), to
		if s == end {
			break
		}
	}
	return list, at, api.OK
}

// row spells the bits of a text as digits.
func row(text string) string {
	var b strings.Builder
	for i := range len(text) {
		for k := 7; k >= 0; k-- {
			b.WriteByte('0' + text[i]>>k&1)
		}
	}
	return b.String()
}

// number reads digits.
func number(digits string) int {
	v := 0
	for i := range len(digits) {
		v = 2*v + int(digits[i]-'0')
	}
	return v
}

// piece makes the bits that a row spells.
func piece(row string) api.Bits {
	full := row + strings.Repeat("0", (8-len(row)%8)%8)
	var b strings.Builder
	for i := 0; i < len(full); i += 8 {
		b.WriteByte(byte(number(full[i : i+8])))
	}
	return api.Bits{Text: b.String(), N: len(row)}
}

// behindOf tells the text of bits behind others.
func behindOf(ahead string, b api.Bits) string {
	j, _ := bits.Join(piece(ahead), b)
	return j.Text
}

// rows are all rows of n numbers from low to high.
func rows(low, high, n int) [][]int {
	l := [][]int{nil}
	for range n {
		var longer [][]int
		for _, row := range l {
			for v := low; v <= high; v++ {
				longer = append(longer, append(slices.Clone(row), v))
			}
		}
		l = longer
	}
	return l
}

// chain is a plain rule for numbers that look mixed, the same at each run.
type chain uint64

func (c *chain) next() int {
	*c = *c*6364136223846793005 + 1442695040888963407
	return int(*c >> 33)
}

// list is n numbers from 0 to high.
func (c *chain) list(n, high int) []int {
	var l []int
	for range n {
		l = append(l, c.next()%(high+1))
	}
	return l
}

// text is n bytes.
func (c *chain) text(n int) string {
	var b strings.Builder
	for range n {
		b.WriteByte(byte(c.next()))
	}
	return b.String()
}

// mix puts numbers in another order.
func (c *chain) mix(l []int) []int {
	out := slices.Clone(l)
	for i := range out {
		k := c.next() % len(out)
		out[i], out[k] = out[k], out[i]
	}
	return out
}

// comb are lengths of which each is one more than the one ahead, up to n, and n once more: they are full.
func comb(n int) []int {
	var l []int
	for v := 1; v <= n; v++ {
		l = append(l, v)
	}
	return append(l, n)
}

// smallLengths are all of up to four symbols and five bits.
func smallLengths() [][]int {
	var l [][]int
	for n := 2; n <= 4; n++ {
		l = append(l, slices.DeleteFunc(rows(1, 5, n), func(l []int) bool { return !modelCheck(l) })...)
	}
	return l
}

// greatLengths are those of many symbols, of long codes, and such as leave room.
func greatLengths() [][]int {
	l := [][]int{slices.Repeat([]int{20}, 258), slices.Repeat([]int{9}, 258), {20, 20}, {20, 1}, {1, 20}, {1, 1}, {2, 2}, {19, 20, 1}}
	c := chain(91)
	for k := 1; k <= 8; k++ {
		l = append(l, slices.Repeat([]int{k}, 1<<k))
	}
	for n := 1; n <= 20; n++ {
		l = append(l, comb(n), comb(n)[1:], c.mix(comb(n)), c.mix(append(comb(n)[:n], 20)))
	}
	for _, n := range []int{2, 3, 5, 16, 100, 257, 258} {
		for _, high := range []int{1, 9, 5000, 1 << 30} {
			w := c.list(n, high)
			for s := range w {
				w[s] >>= c.next() % 31
			}
			made, _ := lengths.Make(w, 12+c.next()%9)
			flat, _ := lengths.Flat(w)
			longer := slices.Clone(made)
			for s := range longer {
				longer[s] += c.next() % (21 - longer[s])
			}
			l = append(l, made, flat, longer)
		}
	}
	return slices.DeleteFunc(l, func(l []int) bool { return !modelCheck(l) })
}

// someLengths are those that each call is held against the model with.
func someLengths() [][]int { return append(smallLengths(), greatLengths()...) }

// wrongLengths are those that may not be.
func wrongLengths() [][]int {
	l := [][]int{nil, {}, {1}, {20}, {0}, {1, 1, 1}, {1, 1, 20}, {20, 1, 1}, {2, 1, 2, 2}, append(comb(20), 20), make([]int, 2), make([]int, 258), slices.Repeat([]int{20}, 259), slices.Repeat([]int{20}, 1<<16+2), slices.Repeat([]int{8}, 257), slices.Repeat([]int{1}, 258)}
	for _, v := range wrongNumbers(20) {
		l = append(l, []int{v, 1}, []int{1, v}, []int{2, v, 2, 2}, []int{v, v}, append(comb(20), v))
	}
	return append(l, []int{0, 1}, []int{1, 0}, []int{5, 0, 5})
}

// wrongNumbers are numbers that lie outside the range from 0 to high.
func wrongNumbers(high int) []int {
	return []int{-1, -2, -high - 1, -256, high + 1, high + 2, 2*high + 2, high + 256, 1 << 31, 1 << 32, 1<<32 + high, 1<<32 + 1, -1 << 32, -1<<32 + 1, math.MinInt32, math.MaxInt32, math.MinInt, math.MinInt + 1, math.MaxInt - 1, math.MaxInt}
}

// sample is a group of symbols that stands in a block that bzip2 wrote.
type sample struct {
	lengths, symbols []int
	text             string
	at, to           int
}

// samples are such groups, of several lengths; the last symbols of most are the ends of blocks.
func samples() []sample {
	return []sample{
		{[]int{3, 3, 3, 1, 3}, []int{3, 0, 3, 3, 1, 4}, "\x88\x5e", 3, 15},
		{[]int{3, 3, 2, 3, 2, 3}, []int{2, 4, 3, 4, 5}, "\x07\x3c", 2, 14},
		{[]int{2, 5, 4, 5, 3, 4, 3, 3, 3, 4}, []int{6, 4, 8, 7, 0, 8, 0, 0, 8, 0, 6, 6, 7, 6, 0, 3, 0, 8, 4, 7, 0, 0, 4, 1, 0, 9}, "\x8d\x58\x50\xa3\x71\x9f\x2a\x80\xbc\x70", 3, 77},
		{[]int{1, 2, 5, 4, 3, 5}, []int{4, 1, 0, 0, 4, 0, 0, 1, 0, 0, 3, 1, 0, 0, 3, 1, 1, 0, 1, 4, 1, 0, 0, 5}, "\x9a\x31\x1d\x1d\x4b\x47\xc5", 3, 50},
		{[]int{2, 5, 5, 4, 5, 5, 6, 6, 6, 5, 6, 6, 5, 6, 6, 6, 6, 6, 6, 5, 6, 5, 6, 5, 5, 6, 5, 5, 4, 6, 6}, []int{14, 0, 28, 18, 0, 28, 12, 2, 24, 3, 0, 24, 9, 10, 5, 16, 8, 20, 12, 0, 19, 0, 2, 19, 1, 27, 3, 0, 23, 26, 1, 27, 0, 4, 21, 0, 2, 3, 28, 0, 3, 23, 2, 17, 0, 24, 0, 26, 24, 5}, "\x6c\x2f\x42\xc5\xb5\x42\xb0\xcd\xfc\x65\xdc\x49\x0d\x93\x2e\x85\x2c\xcb\x8e\x98\xd4\x51\x28\xde\x4a\x96\xab\xc9", 1, 218},
		{[]int{2, 5, 5, 4, 5, 5, 6, 6, 6, 5, 6, 6, 5, 6, 6, 6, 6, 6, 6, 5, 6, 5, 6, 5, 5, 6, 5, 5, 4, 6, 6}, []int{0, 21, 25, 0, 27, 0, 4, 1, 28, 0, 28, 16, 1, 0, 29, 9, 30}, "\xc9\xfa\x5c\x73\x14\x5e\x18\x7d\x0f\xc5", 2, 74},
		{[]int{3, 6, 4, 4, 4, 4, 4, 4, 4, 5, 5, 5, 5, 5, 6, 6, 6, 5, 6, 5, 5, 5, 6, 6, 5, 6}, []int{10, 12, 20, 17, 12, 21, 8, 11, 8, 21, 8, 4, 8, 3, 15, 0, 7, 2, 20, 13, 14, 4, 7, 6, 0, 7, 3, 17, 10, 21, 5, 16, 0, 3, 8, 22, 5, 3, 0, 19, 6, 16, 2, 18, 2, 0, 20, 10, 3, 17}, "\xa4\xeb\x9b\xd7\x51\x48\xd4\x24\x1f\x41\xcb\x36\xe5\x1d\x83\x9d\xe7\xa5\xec\x1c\x7a\xa6\x30\xdd\x97\x84\x33\x33\xbf", 5, 229},
		{[]int{3, 6, 4, 4, 4, 4, 4, 4, 4, 5, 5, 5, 5, 5, 6, 6, 6, 5, 6, 5, 5, 5, 6, 6, 5, 6}, []int{4, 0, 19, 4, 24, 7, 9, 20, 2, 8, 3, 11, 19, 7, 2, 5, 5, 7, 6, 2, 1, 7, 2, 8, 2, 0, 11, 0, 13, 6, 4, 12, 6, 8, 5, 5, 9, 24, 25}, "\x40\x83\x09\xb7\x96\x4a\x0e\x98\x72\x55\x76\x2e\x1c\xa0\x85\x05\x99\x2a\xd0\xab\x2d\xfe", 7, 175},
		{[]int{6, 6, 6, 6, 6, 6, 6, 6, 6, 6, 7, 6, 6, 6, 6, 6, 6, 6, 6, 6, 6, 7, 6, 6, 6, 6, 6, 6, 6, 6, 6, 6, 6, 6, 6, 6, 6, 6, 7, 6, 6, 6, 6, 6, 6, 6, 6, 6, 6, 6, 6, 6, 6, 6, 7, 6, 6, 6, 6, 6, 6, 6, 6, 6, 6, 6}, []int{51, 52, 53, 54, 55, 56, 57, 58, 59, 60, 61, 62, 63, 64, 65}, "\xfc\x31\xcb\xfe\x7a\x6b\xb6\xfc\x73\xd7\x7e\x7a", 4, 95},
	}
}
