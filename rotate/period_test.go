package rotate_test

import (
	"strings"
	"testing"

	"kist/rotate"
)

// wantPeriod holds one answer against what it should be.
func wantPeriod(t *testing.T, s string, want int) {
	t.Helper()
	if p := rotate.Period(s); p != want {
		t.Fatalf("Period of %d bytes (%.20q) = %d, not %d", len(s), s, p, want)
	}
}

// P4.3
func TestPeriodOfTheExamples(t *testing.T) {
	wantPeriod(t, "abab", 2)
	wantPeriod(t, "aba", 3)
	wantPeriod(t, "aaa", 1)
	wantPeriod(t, "", 0)
	wantPeriod(t, "a", 1)
	wantPeriod(t, "ab", 2)
	wantPeriod(t, "\x00", 1)
}

// P4.3: all short texts, and others.
func TestPeriodAsTheModel(t *testing.T) {
	for _, s := range append(append(allTexts("ab", 14), allTexts("abc", 9)...), texts()...) {
		wantPeriod(t, s, modelPeriod(s))
	}
}

// P4.3: texts that begin as they end, but whose rotation is another text.
func TestPeriodThatDoesNotDivide(t *testing.T) {
	wantPeriod(t, "abaab", 5)
	wantPeriod(t, "aabaa", 5)
	wantPeriod(t, "abababa", 7)
	wantPeriod(t, strings.Repeat("ab", 500)+"a", 1001)
	wantPeriod(t, strings.Repeat("abcd", 300)+"ab", 1202)
	wantPeriod(t, strings.Repeat("aab", 7)+"aa", 23)
}

// P4.3: each number of times that a part stands there, primes and others.
func TestPeriodOfParts(t *testing.T) {
	for _, part := range []string{"a", "ab", "aab", "abab" + "b", "\xff\x00\xff\xff", thue(64)} {
		for k := 1; k < 130; k++ {
			s := strings.Repeat(part, k)
			wantPeriod(t, s, len(part))
			wantPeriod(t, s+"z", len(s)+1)
			other := s + s[1:] + "z"
			wantPeriod(t, other, len(other))
		}
	}
}

// P4.5
func TestPeriodDividesAndStays(t *testing.T) {
	for _, s := range append(allTexts("ab", 11), texts()...) {
		p := rotate.Period(s)
		if s == "" {
			wantPeriod(t, s+s, 0)
			continue
		}
		if p < 1 || len(s)%p != 0 {
			t.Fatalf("Period(%q) = %d", s, p)
		}
		for k := range 5 {
			wantPeriod(t, strings.Repeat(s, k+1), p)
		}
		wantPeriod(t, spelled(s, len(s)/2), p)
	}
}

// P4.3: long texts, of lengths with many divisors, and one byte that is not as the others.
func TestPeriodOfLongTexts(t *testing.T) {
	const n = 720720 * 4
	wantPeriod(t, strings.Repeat("a", n), 1)
	wantPeriod(t, strings.Repeat("a", n-1)+"b", n)
	wantPeriod(t, "b"+strings.Repeat("a", n-1), n)
	wantPeriod(t, strings.Repeat("a", n/2-1)+"b"+strings.Repeat("a", n/2), n)
	half := strings.Repeat("a", n/2-1) + "b"
	wantPeriod(t, half+half, n/2)
	third := strings.Repeat("a", n/3-1) + "b"
	wantPeriod(t, third+third+third, n/3)
	parts := map[string]int{"one byte": 1, "two bytes": 2, "rows": 512, "a half twice": 1 << 17}
	for name, s := range long() {
		if want, ok := parts[name]; ok {
			wantPeriod(t, s, want)
		} else {
			wantPeriod(t, s, len(s))
		}
	}
}
