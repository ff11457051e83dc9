package fields_test

import (
	"math"
	"strings"
	"testing"

	"kist/api"
	"kist/fields"
)

// P15.1
func TestOctalAndNumberOfTheExamples(t *testing.T) {
	wantOctal(t, 420, 8, "0000644\x00", api.OK)
	wantOctal(t, 8, 2, "", api.ErrField)
	wantNumber(t, "  17 \x00", 15, api.OK)
	wantNumber(t, " 8", 0, api.ErrField)
	wantNumber(t, "", 0, api.OK)
}

// P15.1
func TestOctalByHand(t *testing.T) {
	for n, digit := range []string{"0", "1", "2", "3", "4", "5", "6", "7"} {
		wantOctal(t, n, 2, digit+"\x00", api.OK)
		wantOctal(t, n, 3, "0"+digit+"\x00", api.OK)
		wantOctal(t, n, 20, strings.Repeat("0", 18)+digit+"\x00", api.OK)
	}
	wantOctal(t, 0, 8, "0000000\x00", api.OK)
	wantOctal(t, 5, 12, "00000000005\x00", api.OK)
	wantOctal(t, 8, 3, "10\x00", api.OK)
	wantOctal(t, 63, 3, "77\x00", api.OK)
	wantOctal(t, 64, 3, "", api.ErrField)
	wantOctal(t, 2097151, 8, "7777777\x00", api.OK)
	wantOctal(t, 2097152, 8, "", api.ErrField)
	wantOctal(t, 8589934591, 12, "77777777777\x00", api.OK)
	wantOctal(t, 8589934592, 12, "", api.ErrField)
	wantOctal(t, 144115188075855871, 20, "7777777777777777777\x00", api.OK)
	wantOctal(t, 144115188075855872, 20, "", api.ErrField)
	wantOctal(t, math.MaxInt, 20, "", api.ErrField)
	wantOctal(t, 9007199254740993, 20, "0400000000000000001\x00", api.OK)
	for _, n := range []int{-1, -8, math.MinInt} {
		wantOctal(t, n, 2, "", api.ErrField)
		wantOctal(t, n, 20, "", api.ErrField)
	}
}

// P15.1: a width that may not be is told ahead of a number that may not.
func TestOctalOfWidths(t *testing.T) {
	for _, width := range []int{math.MinInt, -(1 << 32), -20, -2, -1, 0, 1, 21, 22, 23, 24, 64, 512, 1 << 20, 1<<32 + 8, 1<<62 + 2, math.MaxInt} {
		for _, n := range []int{math.MinInt, -1, 0, 1, 7, 8, 1 << 60, math.MaxInt} {
			wantOctal(t, n, width, "", api.ErrArg)
		}
	}
}

// P15.1
func TestOctalAsTheModel(t *testing.T) {
	for width := range 30 {
		for _, n := range numbers() {
			s, e := modelOctal(n, width)
			wantOctal(t, n, width, s, e)
		}
	}
	for n := range 5000 {
		for _, width := range []int{2, 3, 4, 5, 8} {
			s, e := modelOctal(n, width)
			wantOctal(t, n, width, s, e)
		}
	}
}

// P15.1
func TestNumberByHand(t *testing.T) {
	for s, want := range map[string]int{
		"0": 0, "7": 7, "00": 0, "10": 8, "010": 8, "644": 420, "0000644\x00": 420, "000644 \x00": 420, "   644 \x00": 420, "644\x00 ": 420, "644\x00\x00 \x00": 420, " 644": 420,
		" ": 0, "  ": 0, "\x00": 0, "\x00\x00": 0, " \x00": 0, "\x00 ": 0, " \x00 \x00 ": 0, "       \x00": 0,
		"1 ": 1, "1\x00": 1, " 1": 1, "76543210": 16434824, "013651\x00 ": 6057, "012345670123\x00": 1402433619,
	} {
		wantNumber(t, s, want, api.OK)
	}
	for _, s := range []string{"8", "9", "a", "08", "18", "1 8", "1 1", "1 1 ", "1\x001", "\x001", " \x001", "1\x00\x00 1", "\x00 1", "+1", "-1", "1-", "-0", "0x1", "0o17", "1_0", "1.0", "1\n", "\n1", "\t1", "1\t", "\r", "\v", " \t", "\x80", "\x801", "1\x80", "\xff", "\xa01", "\u00a01", "\u06611", "1\x01", "\x1f", "!", "/", ":", "0/", "0:", "1\x00x", "0000644\x00\n"} {
		wantNumber(t, s, 0, api.ErrField)
	}
}

// P15.1: each byte, at each place of a number.
func TestNumberOfBytes(t *testing.T) {
	for v := range 256 {
		one := byteText(v)
		digit, blank, nought := v >= '0' && v <= '7', v == ' ', v == 0
		for _, c := range []struct {
			s  string
			ok bool
		}{
			{one, digit || blank || nought}, {one + "1", digit || blank}, {"1" + one, digit || blank || nought}, {"1" + one + "1", digit},
			{" " + one, digit || blank || nought}, {one + " ", digit || blank || nought}, {" " + one + "1", digit || blank},
			{"1 " + one, blank || nought}, {"1\x00" + one, blank || nought}, {"\x00" + one, blank || nought}, {one + "\x00", digit || blank || nought},
			{" 1" + one + "\x00", digit || blank || nought}, {"1\x00" + one + "1", false}, {"1 " + one + " ", blank || nought},
		} {
			if _, e := fields.Number(c.s); (e == api.OK) != c.ok {
				t.Fatalf("Number(%q): %d", c.s, int(e))
			}
			likeNumber(t, c.s)
		}
	}
}

// P15.1: all short texts.
func TestNumberAsTheModel(t *testing.T) {
	for _, s := range allTexts(" \x0017", 7) {
		likeNumber(t, s)
	}
	for _, s := range allTexts(" \x0008a", 6) {
		likeNumber(t, s)
	}
	c := chain(152)
	for n := range 60 {
		for range 20 {
			likeNumber(t, c.text(n/4, " ")+c.text(n, "0", "1", "2", "3", "4", "5", "6", "7")+c.text(n/3, " ", "\x00"))
			likeNumber(t, c.text(n/5, " ")+c.text(n%18, "3", "4", "5", "6", "7")+c.text(n/3, " ", "\x00")+c.text(n%2, "0", "8", "\x01"))
			likeNumber(t, c.text(n, " ", "0", "7", "\x00"))
		}
	}
}

// P15.1: 2^53 may be, nothing above it, however many digits there are.
func TestNumberAtTheLimit(t *testing.T) {
	at := "400000000000000000"
	wantNumber(t, at, 1<<53, api.OK)
	wantNumber(t, "377777777777777777", 1<<53-1, api.OK)
	wantNumber(t, " 0"+at+" \x00", 1<<53, api.OK)
	wantNumber(t, strings.Repeat("0", 1000)+at, 1<<53, api.OK)
	for _, s := range []string{"400000000000000001", "400000000000000002", "400000000000000007", "400000000000000010", "777777777777777777", "1000000000000000000", at + "0", at + "1", "0400000000000000001", " 777777777777777777777777 \x00"} {
		wantNumber(t, s, 0, api.ErrBig)
	}
	for _, s := range greatNumbers(8) {
		likeNumber(t, s)
		likeNumber(t, "  00"+s+"\x00 ")
	}
	for n := range 300 {
		for _, digit := range []string{"1", "2", "3", "4", "7"} {
			likeNumber(t, digit+strings.Repeat("0", n))
			likeNumber(t, strings.Repeat(digit, n))
		}
	}
}

// P15.1: a byte that may not be is told ahead of a number that is too great.
func TestNumberTellsBytesFirst(t *testing.T) {
	much := strings.Repeat("7", 100)
	for _, s := range []string{much + "8", much + " 8", much + " 1", much + "\x001", much + "\x00x", much + "x" + much, "x" + much, "\x00" + much} {
		wantNumber(t, s, 0, api.ErrField)
	}
	wantNumber(t, " "+much+" \x00", 0, api.ErrBig)
}

// P15.1: long texts, right up to their last byte.
func TestNumberOfLongTexts(t *testing.T) {
	const n = 1 << 20
	blanks, zeros, ends := strings.Repeat(" ", n), strings.Repeat("0", n), strings.Repeat("\x00 ", n)
	wantNumber(t, blanks, 0, api.OK)
	wantNumber(t, zeros, 0, api.OK)
	wantNumber(t, ends, 0, api.OK)
	wantNumber(t, blanks+zeros+"17"+ends, 15, api.OK)
	wantNumber(t, blanks+zeros+"17"+ends+"1", 0, api.ErrField)
	wantNumber(t, blanks+"1"+zeros+ends, 0, api.ErrBig)
	wantNumber(t, blanks+"1"+zeros+ends+"8", 0, api.ErrField)
	wantNumber(t, blanks+"\x00"+zeros, 0, api.ErrField)
	wantNumber(t, blanks+zeros+"8", 0, api.ErrField)
}

// P15.5
func TestNumberOfOctal(t *testing.T) {
	n := 0
	for width := 2; width <= 20; width++ {
		for _, v := range numbers() {
			s, e := fields.Octal(v, width)
			if e != api.OK {
				continue
			}
			n++
			if v <= 1<<53 {
				wantNumber(t, s, v, api.OK)
				wantNumber(t, "  "+s+" ", v, api.OK)
			} else {
				wantNumber(t, s, 0, api.ErrBig)
			}
		}
	}
	if n < 1000 {
		t.Error(n)
	}
}
