package fields_test

import (
	"fmt"
	"math"
	"strings"
	"testing"

	"kist/api"
	"kist/fields"
)

// P15.3
func TestDecimalOfTheExamples(t *testing.T) {
	wantDecimal(t, "007", 0, api.ErrField)
	wantDecimal(t, "", 0, api.ErrField)
}

// P15.3
func TestDigits(t *testing.T) {
	for n, want := range map[int]string{0: "0", 1: "1", 9: "9", 10: "10", 99: "99", 100: "100", 1024: "1024", 1 << 53: "9007199254740992", math.MaxInt: "9223372036854775807", -1: "", -9: "", -10: "", -1024: "", math.MinInt: "", math.MinInt + 1: ""} {
		if s := fields.Digits(n); s != want {
			t.Errorf("Digits(%d) = %q, not %q", n, s, want)
		}
	}
	for _, n := range numbers() {
		want := ""
		if n >= 0 {
			want = fmt.Sprint(n)
		}
		if s := fields.Digits(n); s != want {
			t.Errorf("Digits(%d) = %q, not %q", n, s, want)
		}
	}
}

// P15.3
func TestDecimalByHand(t *testing.T) {
	for s, want := range map[string]int{"0": 0, "1": 1, "7": 7, "8": 8, "9": 9, "10": 10, "19": 19, "80": 80, "100": 100, "262144": 262144, "1234567890": 1234567890, "9876543210": 9876543210} {
		wantDecimal(t, s, want, api.OK)
	}
	for _, s := range []string{" ", "00", "01", "000", "09", "0 ", " 0", "1 ", " 1", "1\x00", "\x00", "\x001", "1\n", "\n", "+1", "-1", "-0", "+0", "1a", "a", "a1", "0x1", "0b1", "0o7", "1_000", "1,000", "1.0", "1e3", ".", "/", ":", "1/", "1:", "/1", ":1", "1 1", "\xff", "\x80", "1\x80", "\u0661", "\u00b2", "\uff11", "0\u0661"} {
		wantDecimal(t, s, 0, api.ErrField)
	}
}

// P15.3: each byte, at each place of a number.
func TestDecimalOfBytes(t *testing.T) {
	for v := range 256 {
		one := byteText(v)
		digit := v >= '0' && v <= '9'
		for _, c := range []struct {
			s  string
			ok bool
		}{
			{one, digit}, {one + "1", digit && v != '0'}, {"1" + one, digit}, {"1" + one + "1", digit}, {"0" + one, false}, {one + "0", digit && v != '0'},
			{one + one, digit && v != '0'}, {"12345" + one, digit}, {one + "12345", digit && v != '0'},
		} {
			if _, e := fields.Decimal(c.s); (e == api.OK) != c.ok || e != api.OK && e != api.ErrField {
				t.Fatalf("Decimal(%q): %d", c.s, int(e))
			}
			likeDecimal(t, c.s)
		}
	}
}

// P15.3: all short texts.
func TestDecimalAsTheModel(t *testing.T) {
	for _, s := range allTexts("019", 8) {
		likeDecimal(t, s)
	}
	for _, s := range allTexts("0189 -\x00a", 5) {
		likeDecimal(t, s)
	}
	c := chain(153)
	for n := range 60 {
		for range 30 {
			likeDecimal(t, c.text(n, "0", "1", "2", "3", "4", "5", "6", "7", "8", "9"))
			likeDecimal(t, c.text(n%17, "1", "2", "3", "4", "5", "6", "7", "8", "9")+c.text(n%2, "0", "a", " ", "\x00"))
		}
	}
}

// P15.3: 2^53 may be, nothing above it, however many digits there are.
func TestDecimalAtTheLimit(t *testing.T) {
	wantDecimal(t, "9007199254740992", 1<<53, api.OK)
	wantDecimal(t, "9007199254740991", 1<<53-1, api.OK)
	wantDecimal(t, "9000000000000000", 9000000000000000, api.OK)
	for _, s := range []string{"9007199254740993", "9007199254740994", "9007199254740999", "9007199254741000", "9999999999999999", "10000000000000000", "90071992547409920", "9223372036854775807", "9223372036854775808", "18446744073709551616", "18446744073709551617", "18446744073709551623"} {
		wantDecimal(t, s, 0, api.ErrBig)
	}
	for _, s := range greatNumbers(10) {
		likeDecimal(t, s)
	}
	for n := range 300 {
		for _, digit := range []string{"1", "2", "5", "8", "9"} {
			likeDecimal(t, digit+strings.Repeat("0", n))
			likeDecimal(t, strings.Repeat(digit, n))
		}
	}
}

// P15.3: a text that is no number is told ahead of one that is too great; long texts count right up to their last byte.
func TestDecimalTellsBytesFirst(t *testing.T) {
	for _, n := range []int{17, 20, 100, 1 << 20} {
		much := strings.Repeat("9", n)
		wantDecimal(t, much, 0, api.ErrBig)
		for _, s := range []string{"0" + much, "00" + much, much + "a", "a" + much, much + " ", " " + much, much + "\x00", much + " " + much, "-" + much, "+" + much, strings.Repeat("0", n), strings.Repeat("0", n) + "1"} {
			wantDecimal(t, s, 0, api.ErrField)
		}
	}
}

// P15.5
func TestDecimalOfDigits(t *testing.T) {
	for _, n := range numbers() {
		s := fields.Digits(n)
		switch {
		case n < 0:
			wantDecimal(t, s, 0, api.ErrField)
		case n <= 1<<53:
			wantDecimal(t, s, n, api.OK)
		default:
			wantDecimal(t, s, 0, api.ErrBig)
		}
	}
	for n := range 20000 {
		wantDecimal(t, fields.Digits(n), n, api.OK)
	}
}
