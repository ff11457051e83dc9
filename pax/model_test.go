package pax_test

import (
	"fmt"
	"slices"
	"strconv"
	"strings"
	"testing"

	"kist/api"
	"kist/pax"
)

// The model: a record's sizes are tried one by one, from the least on; a text's first record ends at some line end, and is the one that its pair makes.

func modelRecord(p api.Pair) string {
	behind := " " + p.Key + "=" + p.Value + "\n"
	for n := len(behind); ; n++ { // the digits make it greater than that
		if digits := strconv.Itoa(n); len(digits)+len(behind) == n {
			return digits + behind
		}
	}
}

func modelEncode(l []api.Pair) (string, api.Errno) {
	var b strings.Builder
	e := api.OK
	for _, p := range l {
		if strings.Count(p.Key, "=") > 0 || len(p.Key) == 0 {
			return "", api.ErrPax
		}
		if b.Len() <= 262144 { // beyond that no more is needed to tell
			b.WriteString(modelRecord(p))
		}
	}
	if b.Len() > 262144 {
		return "", api.ErrBig
	}
	return b.String(), e
}

// modelPair is the pair of a text that is a record by its looks, whatever length it tells.
func modelPair(s string) (api.Pair, bool) {
	at := 0
	for at < len(s) && s[at] >= '0' && s[at] <= '9' {
		at++
	}
	is := strings.IndexByte(s, '=')
	if at == 0 || at >= len(s) || s[at] != ' ' || is <= at+1 || s[len(s)-1] != '\n' {
		return api.Pair{}, false
	}
	return api.Pair{Key: s[at+1 : is], Value: s[is+1 : len(s)-1]}, true
}

func modelDecode(s string) ([]api.Pair, api.Errno) {
	if len(s) > 262144 {
		return nil, api.ErrBig
	}
	var l []api.Pair
	for len(s) > 0 {
		found := false
		for at := 0; at < len(s) && !found; at++ {
			if s[at] != '\n' {
				continue
			}
			if p, ok := modelPair(s[:at+1]); ok && modelRecord(p) == s[:at+1] {
				l = append(l, p)
				s = s[at+1:]
				found = true
			}
		}
		if !found {
			return nil, api.ErrPax
		}
	}
	return l, api.OK
}

func modelLast(l []api.Pair, key string) (value string, is bool) {
	for _, p := range l {
		if p.Key == key {
			value, is = p.Value, true
		}
	}
	return value, is
}

// short tells of a list no more than can be read.
func short(l []api.Pair) string {
	s := fmt.Sprintf("%q", l[:min(len(l), 20)])
	return fmt.Sprintf("%d pairs %s", len(l), s[:min(len(s), 400)])
}

// wantEncode holds what Encode answers against what it should.
func wantEncode(t *testing.T, l []api.Pair, want string, wantE api.Errno) {
	t.Helper()
	kept := slices.Clone(l)
	s, e := pax.Encode(l)
	if s != want || e != wantE {
		t.Fatalf("Encode of %s = %d bytes %.200q, %d; not %d bytes %.200q, %d", short(l), len(s), s, int(e), len(want), want, int(wantE))
	}
	if !slices.Equal(l, kept) {
		t.Fatalf("Encode changed %s to %s", short(kept), short(l))
	}
}

// wantDecode holds what Decode answers against what it should.
func wantDecode(t *testing.T, s string, want []api.Pair, wantE api.Errno) {
	t.Helper()
	if l, e := pax.Decode(s); !slices.Equal(l, want) || e != wantE {
		t.Fatalf("Decode of %d bytes (%.300q) = %s, %d; not %s, %d", len(s), s, short(l), int(e), short(want), int(wantE))
	}
}

// wantNone holds that a text is no records.
func wantNone(t *testing.T, s string) {
	t.Helper()
	wantDecode(t, s, nil, api.ErrPax)
}

// wantLast holds what Last answers against what it should.
func wantLast(t *testing.T, l []api.Pair, key, want string, wantIs bool) {
	t.Helper()
	kept := slices.Clone(l)
	if v, is := pax.Last(l, key); v != want || is != wantIs {
		t.Fatalf("Last of %s, %.100q = %.100q, %v; not %.100q, %v", short(l), key, v, is, want, wantIs)
	}
	if !slices.Equal(l, kept) {
		t.Fatalf("Last changed %s to %s", short(kept), short(l))
	}
}

// likeEncode holds Encode against the model.
func likeEncode(t *testing.T, l []api.Pair) {
	t.Helper()
	s, e := modelEncode(l)
	wantEncode(t, l, s, e)
}

// likeDecode holds Decode against the model.
func likeDecode(t *testing.T, s string) {
	t.Helper()
	l, e := modelDecode(s)
	wantDecode(t, s, l, e)
}

// likeLast holds Last against the model.
func likeLast(t *testing.T, l []api.Pair, key string) {
	t.Helper()
	v, is := modelLast(l, key)
	wantLast(t, l, key, v, is)
}

// pairs are those of keys and values, one behind the other.
func pairs(l ...string) []api.Pair {
	var out []api.Pair
	for ; len(l) > 0; l = l[2:] {
		out = append(out, api.Pair{Key: l[0], Value: l[1]})
	}
	return out
}

// letters are n of one letter.
func letters(letter string, n int) string { return strings.Repeat(letter, n) }

// byteText is a text of one byte.
func byteText(v int) string { return string([]byte{byte(v)}) }

// eachText goes through those of at most n bytes that stand in letters.
func eachText(letters string, n int, do func(s string)) {
	b := make([]byte, n)
	var fill func(at int)
	fill = func(at int) {
		do(string(b[:at]))
		for i := 0; at < n && i < len(letters); i++ {
			b[at] = letters[i]
			fill(at + 1)
		}
	}
	fill(0)
}

// changed goes through what becomes of a text if one of its bytes is another one, is gone, stands twice, or is swapped with the next, or if a byte is put in.
func changed(s string, do func(s string)) {
	for at := range len(s) + 1 {
		for _, v := range []byte("0123456789 =\n\x00\ra+-\t\xb2\xff") {
			do(s[:at] + string([]byte{v}) + s[at:])
		}
		if at == len(s) {
			return
		}
		for v := range 256 {
			do(s[:at] + byteText(v) + s[at+1:])
		}
		do(s[:at] + s[at+1:])
		if at+1 < len(s) {
			do(s[:at] + s[at+1:at+2] + s[at:at+1] + s[at+2:])
		}
	}
}

// chain is a plain rule for numbers that look mixed, the same at each run.
type chain uint64

func (c *chain) next() int {
	*c = *c*6364136223846793005 + 1442695040888963407
	return int(*c >> 33)
}

// text is one of n bytes, mixed ones or such as records are made of.
func (c *chain) text(n int) string {
	const marks = "= \n\n0123456789a\x00"
	b := make([]byte, n)
	for i := range b {
		b[i] = byte(c.next())
		if c.next()%2 == 0 {
			b[i] = marks[c.next()%len(marks)]
		}
	}
	return string(b)
}

// length is a number below most, mostly a small one.
func (c *chain) length(most int) int { return c.next() % (1 + c.next()%most) }

// pair is one that may be.
func (c *chain) pair(most int) api.Pair {
	key := strings.ReplaceAll(c.text(1+c.length(most)), "=", "k")
	return api.Pair{Key: key, Value: c.text(c.length(most))}
}

// list is one of n pairs that may be.
func (c *chain) list(n, most int) []api.Pair {
	l := make([]api.Pair, n)
	for i := range l {
		l[i] = c.pair(most)
	}
	return l
}
