package delta_test

import (
	"math"
	"slices"
	"strings"
	"testing"

	"kist/api"
	"kist/delta"
)

// wantTake tells what Take answers against what it should.
func wantTake(t *testing.T, s string, at, n int, want []int, wantTo int, wantE api.Errno) {
	t.Helper()
	if l, to, e := delta.Take(s, at, n); !slices.Equal(l, want) || to != wantTo || e != wantE {
		t.Fatalf("Take(%.60x; %d from %d) = %v, %d, %d, not %v, %d, %d", s, n, at, l, to, int(e), want, wantTo, int(wantE))
	}
}

// wantTakeAsModel tells what Take answers against what the model does.
func wantTakeAsModel(t *testing.T, s, digits string, at, n int) {
	t.Helper()
	want, wantTo, wantE := modelTake(digits, at, n)
	wantTake(t, s, at, n, want, wantTo, wantE)
}

// P10.2
func TestTakeOfTheExamples(t *testing.T) {
	wantTake(t, "\x1a\x3c", 0, 4, []int{3, 4, 4, 2}, 15, api.OK)
	wantTake(t, "\x00", 0, 4, nil, 0, api.ErrLengths)
	wantTake(t, "\x00", 0, 2, nil, 0, api.ErrLengths)
	wantTake(t, "\x08", 0, 2, []int{1, 1}, 7, api.OK)
	wantTake(t, "\x08", 0, 3, []int{1, 1, 1}, 8, api.OK)
	wantTake(t, "\x08", 0, 4, nil, 0, api.ErrShort)
}

// takeRow asks for lengths out of bits that stand at a text's end, so that behind them there is none.
func takeRow(t *testing.T, digits string, n int, want []int, wantE api.Errno) {
	t.Helper()
	digits = strings.ReplaceAll(digits, " ", "")
	ahead := (8 - len(digits)%8) % 8
	p := piece(strings.Repeat("1", ahead) + digits)
	wantTo := 0
	if wantE == api.OK {
		wantTo = p.N
	}
	wantTake(t, p.Text, ahead, n, want, wantTo, wantE)
}

// P10.2: a bit that is not there: each of the five, the first of two, the second one.
func TestTakeOfTooFewBits(t *testing.T) {
	takeRow(t, "00011 0 100 0 11110", 4, []int{3, 4, 4, 2}, api.OK)
	for _, digits := range []string{"", "0", "00", "000", "0000", "1", "11", "111", "1111", "1010"} {
		takeRow(t, digits, 2, nil, api.ErrShort)
	}
	takeRow(t, "00011", 2, nil, api.ErrShort)
	takeRow(t, "00011 1", 2, nil, api.ErrShort)
	takeRow(t, "00011 10", 2, nil, api.ErrShort)
	takeRow(t, "00011 11", 2, nil, api.ErrShort)
	takeRow(t, "00011 0", 2, nil, api.ErrShort)
	takeRow(t, "00011 0 1", 2, nil, api.ErrShort)
	takeRow(t, "00011 0 10", 2, nil, api.ErrShort)
	takeRow(t, "00011 0 100", 2, []int{3, 4}, api.OK)
	takeRow(t, "00011 0 100", 3, nil, api.ErrShort)
	takeRow(t, "00001 1", 2, nil, api.ErrShort)
	takeRow(t, "10100 1", 2, nil, api.ErrShort)
}

// P10.2: a length that may not be, behind the five bits or a step, is told ahead of bits that are not there behind it.
func TestTakeOfWrongLengths(t *testing.T) {
	for v := range 32 {
		digits := row(string([]byte{byte(v)}))[3:]
		if v < 1 || v > 20 {
			for _, behind := range []string{"", "0", "00", "1", "10", "11", "100", "110", "11 10 0 0", "10 11 0 0", "000000"} {
				takeRow(t, digits+behind, 2, nil, api.ErrLengths)
			}
			continue
		}
		takeRow(t, digits, 2, nil, api.ErrShort)
		takeRow(t, digits+"00", 2, []int{v, v}, api.OK)
		takeRow(t, digits+strings.Repeat("10", 20-v)+"00", 2, []int{20, 20}, api.OK)
		takeRow(t, digits+strings.Repeat("11", v-1)+"00", 2, []int{1, 1}, api.OK)
		for _, behind := range []string{"", "0", "00", "11 0 0", "10 0 0", "1"} {
			takeRow(t, digits+strings.Repeat("10", 21-v)+behind, 2, nil, api.ErrLengths)
			takeRow(t, digits+strings.Repeat("11", v)+behind, 2, nil, api.ErrLengths)
			takeRow(t, digits+"0"+strings.Repeat("10", 21-v)+behind, 2, nil, api.ErrLengths)
			takeRow(t, digits+"0"+strings.Repeat("11", v)+behind, 2, nil, api.ErrLengths)
		}
	}
}

// P10.2: steps may go up and down again, ahead of the first length, too, and ever so often.
func TestTakeOfStepsToAndFro(t *testing.T) {
	takeRow(t, "00011 10 11 0 11 10 0", 2, []int{3, 3}, api.OK)
	takeRow(t, "00011 10 10 0 11 10 11 0", 2, []int{5, 4}, api.OK)
	takeRow(t, "00001 10 11 0 10 11 0", 2, []int{1, 1}, api.OK)
	takeRow(t, "10100 11 10 0 11 10 0", 2, []int{20, 20}, api.OK)
	up, down := strings.Repeat("10", 19), strings.Repeat("11", 19)
	takeRow(t, "00001"+up+down+up+"0"+down+up+down+"0", 2, []int{20, 1}, api.OK)
	long := strings.Repeat("1011", 1<<18)
	takeRow(t, "00111"+long+"0 10"+long+"0 0", 3, []int{7, 8, 8}, api.OK)
	takeRow(t, "00111"+long+"0 10"+long+"0", 3, nil, api.ErrShort)
	takeRow(t, "10100 0"+strings.Repeat("1110", 1<<18)+"10", 3, nil, api.ErrLengths)
}

// P10.2: what stands behind the lengths that were asked for is not looked at.
func TestTakeStopsAtTheLast(t *testing.T) {
	for _, behind := range []string{"", "0", "1", "10", "11", "1010101010", "1111111111"} {
		p := piece("00001 0 0" + behind)
		wantTake(t, p.Text, 0, 2, []int{1, 1}, 7, api.OK)
		p = piece("10100 11 0 10 0" + behind)
		wantTake(t, p.Text, 0, 2, []int{19, 20}, 11, api.OK)
	}
}

// P10.2
func TestTakeAsBzip2(t *testing.T) {
	for _, b := range samples() {
		wantTake(t, b.text, b.at, len(b.lengths), b.lengths, b.to, api.OK)
	}
}

// P10.2: all bits of two bytes, all places of one.
func TestTakeOfAllBits(t *testing.T) {
	for v := range 1 << 16 {
		s := string([]byte{byte(v >> 8), byte(v)})
		digits := row(s)
		for _, n := range []int{2, 3, 5} {
			wantTakeAsModel(t, s, digits, 0, n)
			wantTakeAsModel(t, s, digits, v%17, n)
		}
		if v < 256 {
			for at := -1; at <= 9; at++ {
				wantTakeAsModel(t, s[1:], digits[8:], at, 2)
			}
		}
	}
}

// P10.2: longer bits, of which few are steps, or many, or that step to and fro.
func TestTakeAsTheModel(t *testing.T) {
	c := chain(102)
	words := []string{"0", "0", "0", "10", "11", "1011", "1110", "1", "00"}
	for kind := 1; kind <= len(words); kind++ {
		for range 300 {
			digits := row(string([]byte{byte(1 + c.next()%21)}))[3:]
			for length := c.next() % 300; len(digits) < length; {
				digits += words[c.next()%kind]
			}
			p := piece(digits)
			for _, n := range []int{2, 3, 2 + c.next()%257, 258} {
				wantTakeAsModel(t, p.Text, row(p.Text), 0, n)
				wantTakeAsModel(t, p.Text, row(p.Text), c.next()%(8*len(p.Text)+1), n)
			}
		}
	}
}

// P10.2: places that are not there, and too few or too many lengths, ahead of all else.
func TestTakeRefuses(t *testing.T) {
	good := "\x1a\x3c"
	for _, s := range []string{"", "\x00", "\xff\xff", "\x08", good, good + strings.Repeat("\x00", 40)} {
		for _, n := range []int{2, 3, 4, 258} {
			for _, at := range wrongNumbers(0, 8*len(s)) {
				wantTake(t, s, at, n, nil, 0, api.ErrArg)
			}
			wantTake(t, s, 8*len(s), n, nil, 0, api.ErrShort)
		}
		for _, n := range wrongNumbers(2, 258) {
			for _, at := range []int{0, 1, 8 * len(s), -1, 8*len(s) + 1, math.MinInt, math.MaxInt} {
				wantTake(t, s, at, n, nil, 0, api.ErrArg)
			}
		}
	}
	many := "\x10" + strings.Repeat("\x00", 40)
	wantTake(t, many, 0, 258, slices.Repeat([]int{2}, 258), 263, api.OK)
	wantTake(t, many, 0, 259, nil, 0, api.ErrArg)
	wantTake(t, many, 0, 1, nil, 0, api.ErrArg)
}

// P10.3: behind whatever bytes, behind bits that fill none, and with whatever bits behind.
func TestTakeOfShow(t *testing.T) {
	c := chain(103)
	for _, l := range someLengths() {
		b, e := delta.Show(l)
		if e != api.OK {
			t.Fatal(l, int(e))
		}
		ahead := c.text(c.next() % 20)
		at := 8 * len(ahead)
		wantTake(t, ahead+b.Text, at, len(l), l, at+b.N, api.OK)
		wantTake(t, ahead+b.Text+c.text(3), at, len(l), l, at+b.N, api.OK)
		at = c.next() % (at + 1)
		wantTake(t, between(row(ahead)[:at], b, row(c.text(c.next()%4))), at, len(l), l, at+b.N, api.OK)
		wantTake(t, between(strings.Repeat("1", at), b, ""), at, len(l), l, at+b.N, api.OK)
	}
}

// P10.2, P10.3: each end that is too soon, and each count of lengths that is lower.
func TestTakeOfWhatIsCut(t *testing.T) {
	c := chain(104)
	for _, l := range [][]int{{3, 4, 4, 2}, {1, 20, 1}, {20, 20}, c.list(40, 1, 20), c.walk(258)} {
		digits, _ := modelShow(l)
		for ahead := range 8 {
			p := piece(strings.Repeat("0", ahead) + digits)
			for n := range (p.N + 7) / 8 {
				if 8*n < ahead {
					wantTake(t, p.Text[:n], ahead, len(l), nil, 0, api.ErrArg)
					continue
				}
				wantTake(t, p.Text[:n], ahead, len(l), nil, 0, api.ErrShort)
			}
			for n := 2; n < len(l); n++ {
				first, _ := modelShow(l[:n])
				wantTake(t, p.Text, ahead, n, l[:n], ahead+len(first), api.OK)
			}
		}
	}
}

// Rule 4: what is handed out is new. Rule 5: an answer does not hang on what was asked ahead of it.
func TestTakeAlone(t *testing.T) {
	kept, _, _ := delta.Take("\x1a\x3c", 0, 4)
	for range 3 {
		l, _, _ := delta.Take("\x1a\x3c", 0, 4)
		clear(l[:cap(l)])
		wantTake(t, "\x1a\x3c", 0, 4, []int{3, 4, 4, 2}, 15, api.OK)
		wantTake(t, "\x1a\x3c", 0, 6, nil, 0, api.ErrShort)
		wantTake(t, "\xff\x3c", 0, 4, nil, 0, api.ErrLengths)
		wantTake(t, "\x08", 0, 2, []int{1, 1}, 7, api.OK)
	}
	if !slices.Equal(kept, []int{3, 4, 4, 2}) {
		t.Error(kept)
	}
}
