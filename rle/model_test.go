package rle_test

import (
	"slices"
	"strings"

	"kist/api"
)

// The model: runs as the chapter's words say them, a byte at a time.

// modelRuns parts a text into its runs, each of at most 255 bytes.
func modelRuns(s string) []string {
	var l []string
	from := 0
	for i := range len(s) {
		if i+1 == len(s) || s[i+1] != s[i] || i+1-from == 255 {
			l = append(l, s[from:i+1])
			from = i + 1
		}
	}
	return l
}

func modelEncode(s string) string {
	var out strings.Builder
	for _, r := range modelRuns(s) {
		switch {
		case len(r) <= 3:
			out.WriteString(r)
		default:
			out.WriteString(r[:4])
			out.WriteByte(byte(len(r) - 4))
		}
	}
	return out.String()
}

func modelDecode(s string) (string, api.Errno) {
	var out []byte
	alike := 0 // the last bytes that are one, since the text's beginning or the last count
	for i := range len(s) {
		more := []byte{s[i]}
		switch {
		case alike == 4:
			more = slices.Repeat(out[len(out)-1:], int(s[i]))
			alike = 0
		case alike > 0 && out[len(out)-1] == s[i]:
			alike++
		default:
			alike = 1
		}
		out = append(out, more...)
		if len(out) > 262144 {
			return "", api.ErrBig
		}
	}
	if alike == 4 {
		return "", api.ErrRun
	}
	return string(out), api.OK
}

// modelLengths tells how long the RLE text of the first n bytes is, for each n.
func modelLengths(s string) []int {
	var l []int
	for n := range len(s) + 1 {
		l = append(l, len(modelEncode(s[:n])))
	}
	return l
}

func modelFit(lengths []int, most int) int {
	best := 0
	for n, long := range lengths {
		if long <= most {
			best = n
		}
	}
	return best
}

// allTexts are those of at most n bytes that stand in letters.
func allTexts(letters string, n int) []string {
	l := []string{""}
	for from := 0; n > 0; n-- {
		to := len(l)
		for _, s := range l[from:to] {
			for i := range len(letters) {
				l = append(l, s+letters[i:i+1])
			}
		}
		from = to
	}
	return l
}

// chain is a plain rule for numbers that look mixed, the same at each run.
type chain uint64

func (c *chain) next() int {
	*c = *c*6364136223846793005 + 1442695040888963407
	return int(*c >> 33)
}

// runs is a text of n runs, of neighbouring lengths' edges above all.
func (c *chain) runs(n int) string {
	edges := []int{1, 1, 1, 2, 3, 3, 4, 4, 5, 6, 97, 98, 101, 251, 254, 255, 256, 258, 259, 260, 510, 514}
	bytes := []byte{'a', 'a', 'b', 0, 255, 4, 251, 0xc3, 0x28}
	var out []byte
	for range n {
		b := bytes[c.next()%len(bytes)]
		out = append(out, slices.Repeat([]byte{b}, edges[c.next()%len(edges)])...)
	}
	return string(out)
}

// sample has runs of each kind beside one another, and bytes that are no UTF-8.
var sample = "\x00\x00\x00\x00\x00aaa" + strings.Repeat("b", 255) + "b" + strings.Repeat("\xff", 259) + "\xfb\xfb\xfb\xfb\xfb" + strings.Repeat("a", 101) + "bb\xe2\x82aaaa" + strings.Repeat("c", 254) + "\x04\x04\x04\x04"

// texts are those that each call is held against the model with.
func texts() []string {
	l := []string{"", sample, "kist", "abababab", "aabbaabbaa", "aaabbbaaabbb"}
	for v := range 256 {
		one := string([]byte{byte(v)})
		l = append(l, one, strings.Repeat(one, 3), strings.Repeat(one, 4), strings.Repeat(one, 4+v), strings.Repeat(one, 5)+"a", "b"+strings.Repeat(one, 256))
	}
	c := chain(31)
	for n := range 40 {
		l = append(l, c.runs(n))
	}
	return l
}
