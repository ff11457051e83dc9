package symbols_test

import (
	"math"
	"slices"
	"strings"

	"kist/api"
)

// The model: lists written anew at each byte, and bits spelled as digits.

func modelOf(s string) string {
	b := []byte(s)
	slices.Sort(b)
	return string(slices.Compact(b))
}

func modelMayBe(symbols string) bool {
	for i := 1; i < len(symbols); i++ {
		if symbols[i-1] >= symbols[i] {
			return false
		}
	}
	return len(symbols) > 0
}

// toFront is the list with the byte at place i ahead of all others.
func toFront(list string, i int) string { return list[i:i+1] + list[:i] + list[i+1:] }

func modelFront(s, symbols string) ([]int, api.Errno) {
	if !modelMayBe(symbols) {
		return nil, api.ErrArg
	}
	var l []int
	for at := range len(s) {
		i := strings.Index(symbols, s[at:at+1])
		if i < 0 {
			return nil, api.ErrSymbol
		}
		l = append(l, i)
		symbols = toFront(symbols, i)
	}
	return l, api.OK
}

func modelBack(l []int, symbols string) (string, api.Errno) {
	if !modelMayBe(symbols) {
		return "", api.ErrArg
	}
	s := ""
	for _, i := range l {
		if i < 0 || i > len(symbols)-1 {
			return "", api.ErrSymbol
		}
		symbols = toFront(symbols, i)
		s += symbols[:1]
	}
	return s, api.OK
}

// row spells the bits of a text as digits.
func row(text string) string {
	var b strings.Builder
	for i := range len(text) {
		for k := 7; k >= 0; k-- {
			b.WriteByte('0' + text[i]>>k&1)
		}
	}
	return b.String()
}

// piece makes the bits that a row spells.
func piece(row string) api.Bits {
	full := row + strings.Repeat("0", (8-len(row)%8)%8)
	var out []byte
	for i := range len(full) {
		if i%8 == 0 {
			out = append(out, 0)
		}
		out[i/8] |= (full[i] - '0') << (7 - i%8)
	}
	return api.Bits{Text: string(out), N: len(row)}
}

// modelShow spells the bits of symbols that may be.
func modelShow(symbols string) string {
	head, rest := "", ""
	for i := range 16 {
		one := ""
		for k := range 16 {
			if strings.Contains(symbols, string([]byte{byte(16*i + k)})) {
				one += "1"
			} else {
				one += "0"
			}
		}
		if strings.Contains(one, "1") {
			head += "1"
			rest += one
		} else {
			head += "0"
		}
	}
	return head + rest
}

// modelTake reads symbols out of digits.
func modelTake(digits string, at int) (string, int, api.Errno) {
	if at < 0 || at > len(digits) {
		return "", 0, api.ErrArg
	}
	if len(digits)-at < 16 {
		return "", 0, api.ErrShort
	}
	head, end, symbols := digits[at:at+16], at+16, ""
	for i := range 16 {
		if head[i] == '0' {
			continue
		}
		if len(digits)-end < 16 {
			return "", 0, api.ErrShort
		}
		for k := range 16 {
			if digits[end+k] == '1' {
				symbols += string([]byte{byte(16*i + k)})
			}
		}
		end += 16
	}
	if symbols == "" {
		return "", 0, api.ErrSymbol
	}
	return symbols, end, api.OK
}

// allTexts are those of at most n bytes that stand in letters.
func allTexts(letters string, n int) []string {
	l := []string{""}
	for from := 0; n > 0; n-- {
		to := len(l)
		for _, s := range l[from:to] {
			for i := range len(letters) {
				l = append(l, s+letters[i:i+1])
			}
		}
		from = to
	}
	return l
}

// chain is a plain rule for numbers that look mixed, the same at each run.
type chain uint64

func (c *chain) next() int {
	*c = *c*6364136223846793005 + 1442695040888963407
	return int(*c >> 33)
}

// text is one of n bytes out of letters.
func (c *chain) text(n int, letters string) string {
	var out []byte
	for range n {
		out = append(out, letters[c.next()%len(letters)])
	}
	return string(out)
}

// all are the bytes that there are, rising.
func all() string {
	var out []byte
	for v := range 256 {
		out = append(out, byte(v))
	}
	return string(out)
}

// texts are those that each call is held against the model with.
func texts() []string {
	l := []string{"banana", "kist", "mississippi", "aaaa", "\x7f\x80", "\xff\x00\xff\xff\x00\x01", "\xe2\x82\xac\xe2\x82", "\x0f\x10\x1f\x20\xef\xf0", all(), all() + all(), strings.Repeat("\xff", 300), strings.Repeat("ab", 150) + "a"}
	for v := range 256 {
		l = append(l, string([]byte{byte(v)}), string([]byte{byte(v), byte(255 - v), byte(v)}))
	}
	c := chain(61)
	for _, letters := range []string{"ab", "abc", "\x00\xff", "\x0f\x10", "\x7f\x80", all()} {
		for n := 1; n < 300; n = 2*n + 5 {
			l = append(l, c.text(n, letters))
		}
	}
	return l
}

// someSymbols are symbols that may be: each byte alone, each row whole and each column, all but one, and mixed ones.
func someSymbols() []string {
	l := []string{all()}
	for v := range 256 {
		l = append(l, all()[v:v+1], all()[:v]+all()[v+1:])
	}
	for i := range 16 {
		column := ""
		for k := range 16 {
			column += all()[16*k+i : 16*k+i+1]
		}
		l = append(l, all()[16*i:16*i+16], column)
	}
	c := chain(62)
	for n := range 80 {
		l = append(l, modelOf(c.text(1+4*n, all())), modelOf(c.text(1+n/4, all())))
	}
	return l
}

// wrongSymbols are those that may not be.
func wrongSymbols() []string {
	return []string{"", "aa", "ba", "aab", "abb", "aba", "abcb", "acb", "\x80\x7f", "\xff\x00", "\x00\x00", "\xff\xff", "\x01\x00\x02", all() + "\x00", all() + "\xff", "\x00" + all(), all()[1:] + "\x00", strings.Repeat("a", 257)}
}

// wrongPlaces are numbers that are no place in a list of n.
func wrongPlaces(n int) []int {
	return []int{-1, -2, -n, -256, n, n + 1, 256, 257, n + 256, 1 << 32, 1<<32 + n - 1, -1 << 32, math.MinInt, math.MinInt + 1, math.MinInt32, math.MaxInt32, math.MaxInt}
}
