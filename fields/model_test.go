package fields_test

import (
	"fmt"
	"math"
	"math/big"
	"regexp"
	"strings"
	"testing"

	"kist/api"
	"kist/fields"
)

// The model: forms of whole texts, numbers without a range, bytes one by one.

var (
	numberForm  = regexp.MustCompile(`^ *([0-7]*)[ \x00]*$`)
	decimalForm = regexp.MustCompile(`^(0|[1-9][0-9]*)$`)
	greatest    = big.NewInt(9007199254740992)
)

func modelValue(form *regexp.Regexp, s string, base int) (int, api.Errno) {
	m := form.FindStringSubmatch(s)
	if m == nil {
		return 0, api.ErrField
	}
	v, _ := new(big.Int).SetString("0"+m[1], base)
	if v.Cmp(greatest) > 0 {
		return 0, api.ErrBig
	}
	return int(v.Int64()), api.OK
}

func modelNumber(s string) (int, api.Errno) { return modelValue(numberForm, s, 8) }

func modelDecimal(s string) (int, api.Errno) { return modelValue(decimalForm, s, 10) }

func modelOctal(n, width int) (string, api.Errno) {
	if width < 2 || width > 20 {
		return "", api.ErrArg
	}
	above := new(big.Int).Exp(big.NewInt(8), big.NewInt(int64(width-1)), nil)
	if v := big.NewInt(int64(n)); v.Sign() < 0 || v.Cmp(above) >= 0 {
		return "", api.ErrField
	}
	return fmt.Sprintf("%0*o\x00", width-1, n), api.OK
}

func modelCut(s string) string {
	var b strings.Builder
	for i := 0; i < len(s) && s[i] != 0; i++ {
		b.WriteByte(s[i])
	}
	return b.String()
}

func modelText(s string, width int) (string, api.Errno) {
	if width < 0 || width > 512 {
		return "", api.ErrArg
	}
	if len(s) > width || len(modelCut(s)) < len(s) {
		return "", api.ErrField
	}
	b := make([]byte, width)
	for i := range len(s) {
		b[i] = s[i]
	}
	return string(b), api.OK
}

func modelSum(s string) (int, api.Errno) {
	if len(s) != 512 {
		return 0, api.ErrArg
	}
	b := []byte(s[:148] + "        " + s[156:])
	n := 0
	for _, v := range b {
		n += int(v)
	}
	return n, api.OK
}

// wantOctal holds what Octal answers against what it should.
func wantOctal(t *testing.T, n, width int, want string, wantE api.Errno) {
	t.Helper()
	if s, e := fields.Octal(n, width); s != want || e != wantE {
		t.Fatalf("Octal(%d, %d) = %q, %d; not %q, %d", n, width, s, int(e), want, int(wantE))
	}
}

// wantNumber holds what Number answers against what it should.
func wantNumber(t *testing.T, s string, want int, wantE api.Errno) {
	t.Helper()
	if n, e := fields.Number(s); n != want || e != wantE {
		t.Fatalf("Number of %d bytes (%.140q) = %d, %d; not %d, %d", len(s), s, n, int(e), want, int(wantE))
	}
}

// wantDecimal holds what Decimal answers against what it should.
func wantDecimal(t *testing.T, s string, want int, wantE api.Errno) {
	t.Helper()
	if n, e := fields.Decimal(s); n != want || e != wantE {
		t.Fatalf("Decimal of %d bytes (%.140q) = %d, %d; not %d, %d", len(s), s, n, int(e), want, int(wantE))
	}
}

// wantText holds what Text answers against what it should.
func wantText(t *testing.T, s string, width int, want string, wantE api.Errno) {
	t.Helper()
	if f, e := fields.Text(s, width); f != want || e != wantE {
		t.Fatalf("Text of %d bytes (%.140q), %d = %q, %d; not %q, %d", len(s), s, width, f, int(e), want, int(wantE))
	}
}

// wantCut holds what Cut answers against what it should.
func wantCut(t *testing.T, s, want string) {
	t.Helper()
	if c := fields.Cut(s); c != want {
		t.Fatalf("Cut of %d bytes (%.140q) = %.140q, not %.140q", len(s), s, c, want)
	}
}

// wantSum holds what Sum answers against what it should.
func wantSum(t *testing.T, s string, want int, wantE api.Errno) {
	t.Helper()
	if n, e := fields.Sum(s); n != want || e != wantE {
		t.Fatalf("Sum of %d bytes = %d, %d; not %d, %d", len(s), n, int(e), want, int(wantE))
	}
}

// likeNumber holds Number against the model.
func likeNumber(t *testing.T, s string) {
	t.Helper()
	n, e := modelNumber(s)
	wantNumber(t, s, n, e)
}

// likeDecimal holds Decimal against the model.
func likeDecimal(t *testing.T, s string) {
	t.Helper()
	n, e := modelDecimal(s)
	wantDecimal(t, s, n, e)
}

// likeText holds Text against the model.
func likeText(t *testing.T, s string, width int) {
	t.Helper()
	f, e := modelText(s, width)
	wantText(t, s, width, f, e)
}

// likeSum holds Sum against the model.
func likeSum(t *testing.T, s string) {
	t.Helper()
	n, e := modelSum(s)
	wantSum(t, s, n, e)
}

// allTexts are those of at most n bytes that stand in letters.
func allTexts(letters string, n int) []string {
	l := []string{""}
	for from := 0; n > 0; n-- {
		to := len(l)
		for _, s := range l[from:to] {
			for i := range len(letters) {
				l = append(l, s+letters[i:i+1])
			}
		}
		from = to
	}
	return l
}

// byteText is a text of one byte.
func byteText(v int) string { return string([]byte{byte(v)}) }

// noughts are n bytes 0.
func noughts(n int) string { return strings.Repeat("\x00", n) }

// numbers are those around each power of 2, around each power of 10, and at the ends of the range.
func numbers() []int {
	l := []int{math.MinInt, math.MinInt + 1, math.MaxInt - 1, math.MaxInt}
	for k := range 63 {
		l = append(l, 1<<k-2, 1<<k-1, 1<<k, 1<<k+1, -(1 << k))
	}
	for v := 1; v <= math.MaxInt/10; v *= 10 {
		l = append(l, v-1, v, v+1, 3*v, -v)
	}
	c := chain(151)
	for k := range 60 {
		l = append(l, c.next()<<31|c.next(), c.next()>>(k/2))
	}
	return l
}

// greatNumbers are those around each power of 2 up to hundreds of bits, in digits to a base.
func greatNumbers(base int) []string {
	var l []string
	for k := range 400 {
		for _, more := range []int64{-1, 0, 1, 2, 7} {
			v := new(big.Int).Lsh(big.NewInt(1), uint(k))
			l = append(l, v.Add(v, big.NewInt(more)).Text(base))
		}
	}
	return l
}

// chain is a plain rule for numbers that look mixed, the same at each run.
type chain uint64

func (c *chain) next() int {
	*c = *c*6364136223846793005 + 1442695040888963407
	return int(*c >> 33)
}

// text is one of n pieces.
func (c *chain) text(n int, pieces ...string) string {
	var b strings.Builder
	for range n {
		b.WriteString(pieces[c.next()%len(pieces)])
	}
	return b.String()
}

// sector is one of mixed bytes.
func (c *chain) sector() string {
	b := make([]byte, 512)
	for i := range b {
		b[i] = byte(c.next())
	}
	return string(b)
}
