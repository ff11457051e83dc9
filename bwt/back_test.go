package bwt_test

import (
	"slices"
	"strings"
	"testing"

	"kist/api"
	"kist/bwt"
)

// P5.2
func TestBackOfTheExamples(t *testing.T) {
	for _, c := range []struct {
		last string
		row  int
		text string
		e    api.Errno
	}{
		{"nnbaaa", 3, "banana", api.OK},
		{"nnbaaa", 0, "abanan", api.OK},
		{"ab", 0, "aa", api.OK},
		{"ab", 1, "bb", api.OK},
		{"", 0, "", api.ErrOrigin},
	} {
		if text, e := bwt.Back(c.last, c.row); text != c.text || e != c.e {
			t.Errorf("Back(%q, %d) = %q, %d", c.last, c.row, text, int(e))
		}
	}
}

// P5.2: whatever the column is, also one that no text has, and any row.
func TestBackAsTheModel(t *testing.T) {
	for _, last := range slices.Concat(allTexts("ab", 9), allTexts("abc", 6), allTexts("\x00\x7f\x80\xff", 4), texts()) {
		rows := wrongRows(len(last))
		for row := range len(last) {
			if row < 10 || row%37 == 0 || row == len(last)-1 {
				rows = append(rows, row)
			}
		}
		for _, row := range rows {
			text, e := modelBack(last, row)
			if got, gotE := bwt.Back(last, row); got != text || gotE != e {
				t.Fatalf("Back(%q, %d) = %q, %d, not %q, %d", last, row, got, int(gotE), text, int(e))
			}
		}
	}
}

// P5.2: ErrBig goes ahead of ErrOrigin.
func TestBackBeyondTheLimit(t *testing.T) {
	for _, n := range []int{api.MaxText + 1, api.MaxText + 2, 2 * api.MaxText, 1 << 24} {
		last := strings.Repeat("x", n)
		for _, row := range append(wrongRows(n), 0, 1, n-1) {
			if text, e := bwt.Back(last, row); text != "" || e != api.ErrBig {
				t.Error(n, row, len(text), int(e))
			}
		}
	}
}

// P5.2: as many bytes as may be.
func TestBackAtTheLimit(t *testing.T) {
	const n = api.MaxText
	for name, last := range long(n) {
		p := modelPlaces(last)
		for _, row := range []int{0, 1, n / 3, n - 1} {
			text, e := bwt.Back(last, row)
			if e != api.OK || len(text) != n {
				t.Fatal(name, row, len(text), int(e))
			}
			at := p[row]
			for i := range n {
				if text[i] != last[at] {
					t.Fatal(name, row, i)
				}
				at = p[at]
			}
		}
		for _, row := range wrongRows(n) {
			if text, e := bwt.Back(last, row); text != "" || e != api.ErrOrigin {
				t.Error(name, row, len(text), int(e))
			}
		}
	}
}

// P5.3
func TestBackOfForward(t *testing.T) {
	for _, s := range slices.Concat(allTexts("ab", 12)[1:], allTexts("abc", 7)[1:], allTexts("\x00\x7f\x80\xff", 5)[1:], texts()) {
		last, row, _ := bwt.Forward(s)
		if text, e := bwt.Back(last, row); text != s || e != api.OK {
			t.Fatalf("of %q comes %q, %d", s, text, int(e))
		}
	}
}

// P5.3: any row tells the rotation that stands there.
func TestBackOfEachRow(t *testing.T) {
	for _, s := range slices.Concat(allTexts("ab", 8)[1:], allTexts("\x00\x80\xff", 5)[1:], texts()) {
		last, _, _ := bwt.Forward(s)
		for row, want := range modelRows(s) {
			if row%(1+len(s)/20) > 0 {
				continue
			}
			if text, e := bwt.Back(last, row); text != want || e != api.OK {
				t.Fatalf("row %d of %q is %q, not %q; %d", row, s, want, text, int(e))
			}
		}
	}
}
