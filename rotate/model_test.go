package rotate_test

import (
	"cmp"
	"math"
	"slices"
	"strings"
)

// The model: rotations spelled out, and held against each other whole.

func spelled(s string, i int) string { return s[i:] + s[:i] }

func modelOrder(s string) []int {
	type row struct {
		text string
		i    int
	}
	var rows []row
	for i := range len(s) {
		rows = append(rows, row{spelled(s, i), i})
	}
	slices.SortFunc(rows, func(a, b row) int {
		return cmp.Or(strings.Compare(a.text, b.text), cmp.Compare(a.i, b.i))
	})
	var l []int
	for _, r := range rows {
		l = append(l, r.i)
	}
	return l
}

func modelPeriod(s string) int {
	for p := 1; p < len(s); p++ {
		if spelled(s, p) == s {
			return p
		}
	}
	return len(s)
}

// allTexts are those of at most n bytes that stand in letters.
func allTexts(letters string, n int) []string {
	l := []string{""}
	for from := 0; n > 0; n-- {
		to := len(l)
		for _, s := range l[from:to] {
			for i := range len(letters) {
				l = append(l, s+letters[i:i+1])
			}
		}
		from = to
	}
	return l
}

// chain is a plain rule for numbers that look mixed, the same at each run.
type chain uint64

func (c *chain) next() int {
	*c = *c*6364136223846793005 + 1442695040888963407
	return int(*c >> 33)
}

// text is one of n bytes out of letters.
func (c *chain) text(n int, letters string) string {
	var out []byte
	for range n {
		out = append(out, letters[c.next()%len(letters)])
	}
	return string(out)
}

// bytes are all of them, rising.
func bytes() string {
	var out []byte
	for v := range 256 {
		out = append(out, byte(v))
	}
	return string(out)
}

// fibonacci is the first of Fibonacci's words that has n bytes or more: its rotations are alike for long.
func fibonacci(n int) string {
	a, b := "a", "ab"
	for len(b) < n {
		a, b = b, b+a
	}
	return b
}

// thue is the first n bytes of Thue's word, which has no part three times in a row.
func thue(n int) string {
	var out []byte
	for i := range n {
		ones := 0
		for k := i; k > 0; k /= 2 {
			ones += k % 2
		}
		out = append(out, 'a'+byte(ones%2))
	}
	return string(out)
}

// runs are texts of runs about as long as each power of 2: their rotations differ far behind their beginnings.
func runs() []string {
	var l []string
	for _, n := range []int{1, 2, 3, 4, 5, 7, 8, 9, 15, 16, 17, 31, 32, 33, 63, 64, 65, 127, 128, 129} {
		run := strings.Repeat("a", n)
		l = append(l, run, run+"b", "b"+run, run+"b"+run, run+"b"+run+"c", run+run+"b"+run+"b", run+"\x00", "\xff"+run)
	}
	return l
}

// texts are those that each call is held against the model with.
func texts() []string {
	l := append(runs(), "", "banana", "abab", "aba", "aaa", "kist", "mississippi", "\x7f\x80", "\x80\x7f\x00\xff", "\xff\xff\x00\xff\xff\x01", "\xe2\x82\xac\xe2\x82", bytes(), bytes()+bytes(), fibonacci(300), fibonacci(300)+"c", thue(256), thue(255)+"z")
	c := chain(41)
	for _, letters := range []string{"ab", "abc", "\x00\xff", "\x7f\x80", bytes()} {
		for n := 1; n < 60; n += 7 {
			one := c.text(n, letters)
			l = append(l, one, one+one, one+one+one, one+one+"a", strings.Repeat(one, 12))
		}
	}
	return l
}

// long are texts of as many bytes as bwt takes, or nearly, whose rotations are alike for long, or not.
func long() map[string]string {
	const n = 1 << 18
	c := chain(42)
	half := c.text(n/2, "ab")
	row := strings.Repeat("a", 511) + "b"
	return map[string]string{
		"one byte":       strings.Repeat("a", n),
		"two bytes":      strings.Repeat("ab", n/2),
		"last greater":   strings.Repeat("a", n-1) + "b",
		"last less":      strings.Repeat("b", n-1) + "a",
		"rows":           strings.Repeat(row, 512),
		"rows but one":   strings.Repeat(row, 512)[1:] + "0",
		"fibonacci":      fibonacci(n / 2),
		"thue":           thue(n),
		"a half twice":   half + half,
		"half and other": half + half[1:] + "z",
		"mixed":          c.text(n, bytes()),
	}
}

// wrongNumbers are those of no rotation of any text of n bytes.
func wrongNumbers(n int) []int {
	return []int{-1, -2, -n - 1, n, n + 1, 2*n + 1, math.MinInt, math.MinInt + 1, math.MaxInt, math.MaxInt - n, math.MinInt32, math.MaxInt32, 1 << 62}
}
