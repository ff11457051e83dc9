package delta_test

import (
	"math"
	"slices"
	"strings"

	"kist/api"
	"kist/bits"
)

// The model: bits spelled as digits, put together and cut off word by word.

// modelMayBe tells whether lengths may be told.
func modelMayBe(l []int) bool {
	for _, k := range l {
		if k <= 0 || k >= 21 {
			return false
		}
	}
	return len(l) > 1 && len(l) < 259
}

// modelShow spells lengths.
func modelShow(l []int) (string, api.Errno) {
	if !modelMayBe(l) {
		return "", api.ErrLengths
	}
	digits := row(string([]byte{byte(l[0])}))[3:]
	for s := range l {
		by := l[s] - l[max(s-1, 0)]
		digits += strings.Repeat("10", max(by, 0)) + strings.Repeat("11", max(-by, 0)) + "0"
	}
	return digits, api.OK
}

// modelTake reads n lengths out of digits.
func modelTake(digits string, at, n int) ([]int, int, api.Errno) {
	if at < 0 || at > len(digits) || n <= 1 || n >= 259 {
		return nil, 0, api.ErrArg
	}
	rest := digits[at:]
	if len(rest) < 5 {
		return nil, 0, api.ErrShort
	}
	length := number(rest[:5])
	rest = rest[5:]
	var list []int
	for len(list) < n {
		switch {
		case length <= 0 || length >= 21:
			return nil, 0, api.ErrLengths
		case strings.HasPrefix(rest, "0"):
			list, rest = append(list, length), rest[1:]
		case strings.HasPrefix(rest, "10"):
			length, rest = length+1, rest[2:]
		case strings.HasPrefix(rest, "11"):
			length, rest = length-1, rest[2:]
		default:
			return nil, 0, api.ErrShort
		}
	}
	return list, len(digits) - len(rest), api.OK
}

// row spells the bits of a text as digits.
func row(text string) string {
	var b strings.Builder
	for i := range len(text) {
		for k := 7; k >= 0; k-- {
			b.WriteByte('0' + text[i]>>k&1)
		}
	}
	return b.String()
}

// number reads digits.
func number(digits string) int {
	v := 0
	for i := range len(digits) {
		v = 2*v + int(digits[i]-'0')
	}
	return v
}

// piece makes the bits that a row spells, in groups that blanks may part.
func piece(row string) api.Bits {
	row = strings.ReplaceAll(row, " ", "")
	full := row + strings.Repeat("0", (8-len(row)%8)%8)
	var b strings.Builder
	for i := 0; i < len(full); i += 8 {
		b.WriteByte(byte(number(full[i : i+8])))
	}
	return api.Bits{Text: b.String(), N: len(row)}
}

// between tells the text of bits with others ahead of and behind them.
func between(ahead string, b api.Bits, behind string) string {
	j, _ := bits.Join(piece(ahead), b, piece(behind))
	return j.Text
}

// rows are all rows of n numbers from low to high.
func rows(low, high, n int) [][]int {
	l := [][]int{nil}
	for range n {
		var longer [][]int
		for _, row := range l {
			for v := low; v <= high; v++ {
				longer = append(longer, append(slices.Clone(row), v))
			}
		}
		l = longer
	}
	return l
}

// chain is a plain rule for numbers that look mixed, the same at each run.
type chain uint64

func (c *chain) next() int {
	*c = *c*6364136223846793005 + 1442695040888963407
	return int(*c >> 33)
}

// text is n bytes.
func (c *chain) text(n int) string {
	var b strings.Builder
	for range n {
		b.WriteByte(byte(c.next()))
	}
	return b.String()
}

// list is n lengths from low to high.
func (c *chain) list(n, low, high int) []int {
	var l []int
	for range n {
		l = append(l, low+c.next()%(high-low+1))
	}
	return l
}

// walk is n lengths of which each is near the one ahead of it.
func (c *chain) walk(n int) []int {
	l := c.list(1, 1, 20)
	for len(l) < n {
		l = append(l, min(20, max(1, l[len(l)-1]+c.next()%5-2)))
	}
	return l
}

// someLengths are those that each call is held against the model with: all of two, all of few kinds, and longer ones.
func someLengths() [][]int {
	l := rows(1, 20, 2)
	for n := 3; n <= 6; n++ {
		l = append(l, rows(1, 3, n)...)
		l = append(l, rows(18, 20, n)...)
	}
	c := chain(101)
	for n := 2; n <= 258; n++ {
		l = append(l, c.list(n, 1, 20), c.walk(n))
	}
	for _, k := range []int{1, 2, 10, 19, 20} {
		l = append(l, slices.Repeat([]int{k}, 2), slices.Repeat([]int{k}, 257), slices.Repeat([]int{k}, 258))
	}
	return append(l, slices.Repeat([]int{1, 20}, 129), slices.Repeat([]int{20, 1}, 129), append(slices.Repeat([]int{5}, 257), 20))
}

// wrongLengths are those that may not be.
func wrongLengths() [][]int {
	l := [][]int{nil, {}, {1}, {20}, {0}, {21}, make([]int, 2), make([]int, 258), slices.Repeat([]int{1}, 259), slices.Repeat([]int{20}, 260), slices.Repeat([]int{7}, 1<<16+2)}
	for _, v := range []int{0, -1, -2, -20, 21, 22, 31, 32, 33, 64, 255, 256, 257, 1 << 31, 1<<31 + 5, 1 << 32, 1<<32 + 1, 1<<32 + 20, -1 << 32, -1<<32 + 1, math.MinInt32, math.MaxInt32, math.MinInt, math.MinInt + 1, math.MinInt + 5, math.MaxInt - 1, math.MaxInt} {
		l = append(l, []int{v}, []int{v, 1}, []int{1, v}, []int{20, v}, []int{3, v, 3}, []int{v, v}, append(slices.Repeat([]int{9}, 257), v), append(slices.Repeat([]int{9}, 258), v))
	}
	return l
}

// wrongNumbers are numbers that lie outside the range from low, which is not below 0, to high.
func wrongNumbers(low, high int) []int {
	l := []int{-1, -2, -high - 1, -8, -256, high + 1, high + 2, 2*high + 2, high + 256, 1 << 31, 1 << 32, 1<<32 + low, 1<<32 + high, -1 << 32, -1<<32 + high, math.MinInt32, math.MaxInt32, math.MinInt, math.MinInt + 1, math.MinInt + high, math.MaxInt - 1, math.MaxInt}
	for v := range low {
		l = append(l, v)
	}
	return l
}

// sample is a table of lengths that stands in a block that bzip2 wrote.
type sample struct {
	lengths []int
	text    string
	at, to  int
}

// samples are such tables: of few symbols, of long codes, of lengths that leave room, and of all bytes.
func samples() []sample {
	eights := slices.Repeat([]int{8}, 258)
	for _, s := range []int{133, 142, 231, 247} {
		eights[s] = 9
	}
	return []sample{
		{[]int{3, 3, 2, 2, 2}, "\x30\xcc\x0c", 5, 17},
		{[]int{3, 3, 3, 1, 3}, "\x0c\x7a\x88", 1, 19},
		{[]int{3, 3, 2, 3, 2, 3}, "\x21\x9a\x68", 4, 23},
		{[]int{2, 2, 1}, "\x21\x18", 4, 14},
		{[]int{2, 2, 1}, "\x18\x46", 6, 16},
		{[]int{3, 5, 3, 3, 4, 3, 4, 4, 4, 4, 5, 4, 6, 7, 8, 6, 8, 8, 8, 8, 8}, "\xc1\xa9\xe4\xd0\x4d\x49\x3d\x40", 4, 64},
		{[]int{5, 5, 4, 4, 5, 4, 4, 4, 5, 4, 4, 5, 5, 5, 5, 4, 4, 5, 5, 4, 4}, "\x29\x93\x13\x20\xc8\xc1", 0, 44},
		{[]int{3, 6, 3, 3, 2, 3, 4, 5, 4, 6, 6, 7, 7, 8, 7, 8, 8, 9, 8, 8, 9}, "\xc1\xaa\x7e\x69\x26\xa2\x26\x89\x90", 4, 70},
		{[]int{2, 3, 2, 3, 3, 4, 5, 6, 7, 8, 9, 11, 10, 14, 13, 14, 13, 13}, "\x09\x34\x49\x24\x94\xd5\x4d\x30", 1, 62},
		{[]int{2, 4, 2, 2, 4, 5, 5, 5, 7, 11, 11, 6, 10, 9, 10, 10, 10, 10}, "\x12\x9e\x52\x14\xaa\x3f\xf5\x53\x40", 0, 71},
		{eights, "\x52\x00\x00\x00\x00\x00\x00\x00\x00\x00\x00\x00\x00\x00\x00\x00\x00\x01\x30\x09\x80\x00\x00\x00\x00\x00\x00\x00\x00\x00\x00\x4c\x00\x04\xc0\x04", 5, 284},
	}
}
