package symbols_test

import (
	"slices"
	"strings"
	"testing"

	"kist/api"
	"kist/symbols"
)

// front tells what Front answers against what it should.
func front(t *testing.T, s, list string, want []int, wantE api.Errno) {
	t.Helper()
	if l, e := symbols.Front(s, list); !slices.Equal(l, want) || e != wantE {
		t.Fatalf("Front(%q, %q) = %v, %d, not %v, %d", s, list, l, int(e), want, int(wantE))
	}
}

// back tells what Back answers against what it should.
func back(t *testing.T, l []int, list string, want string, wantE api.Errno) {
	t.Helper()
	if s, e := symbols.Back(l, list); s != want || e != wantE {
		t.Fatalf("Back(%v, %q) = %q, %d, not %q, %d", l, list, s, int(e), want, int(wantE))
	}
}

// P6.1
func TestOf(t *testing.T) {
	if v := symbols.Of("banana"); v != "abn" {
		t.Errorf("%q", v)
	}
	if v := symbols.Of(""); v != "" {
		t.Errorf("%q", v)
	}
	for _, s := range slices.Concat(allTexts("ab", 8), allTexts("\x00\x0f\x10\x7f\x80\xff", 4), texts(), someSymbols(), wrongSymbols()) {
		if v := symbols.Of(s); v != modelOf(s) {
			t.Fatalf("Of(%q) = %q", s, v)
		}
	}
}

// P6.1: symbols may be just where they are what Of tells of a text.
func TestWhichMayBe(t *testing.T) {
	for _, list := range slices.Concat(allTexts("abc", 4), allTexts("\x00\x7f\x80\xff", 5), someSymbols(), wrongSymbols()) {
		want := api.OK
		if !modelMayBe(list) {
			want = api.ErrArg
		}
		front(t, "", list, nil, want)
		back(t, nil, list, "", want)
		if _, e := symbols.Show(list); e != want {
			t.Fatalf("Show(%q): %d", list, int(e))
		}
		if (want == api.OK) != (list != "" && symbols.Of(list) == list) {
			t.Fatalf("Of(%q) = %q", list, symbols.Of(list))
		}
	}
}

// P6.2
func TestFrontOfTheExamples(t *testing.T) {
	front(t, "banana", "abn", []int{1, 1, 2, 1, 1, 1}, api.OK)
	front(t, "aab", "ab", []int{0, 0, 1}, api.OK)
	back(t, []int{1, 1, 2, 1, 1, 1}, "abn", "banana", api.OK)
	back(t, []int{0, 0, 1}, "ab", "aab", api.OK)
}

// P6.2: the places that bzip2 wrote in its blocks, read out of them, of the last columns that stand there.
func TestFrontAsBzip2(t *testing.T) {
	for _, c := range []struct {
		last   string
		places []int
	}{
		{"nnbaaa", []int{2, 0, 2, 2, 0, 0}},
		{"ktis", []int{1, 3, 2, 3}},
		{"pssmipissii", []int{2, 3, 0, 3, 3, 3, 1, 3, 0, 1, 0}},
		{"kynxesergl i hhv otTu c uwd rfm ebp qjoooza", []int{12, 26, 16, 26, 10, 22, 1, 22, 14, 18, 9, 17, 1, 17, 0, 25, 2, 21, 24, 15, 25, 4, 19, 1, 2, 26, 21, 3, 13, 22, 24, 3, 16, 23, 25, 3, 26, 26, 15, 0, 0, 27, 27}},
		{"ootree,steh  bhbuttt  otti n oieao  sn q", []int{8, 0, 12, 11, 7, 0, 5, 12, 4, 3, 9, 7, 0, 9, 2, 1, 13, 5, 0, 0, 4, 0, 9, 2, 0, 11, 3, 12, 1, 4, 3, 8, 12, 3, 4, 0, 10, 6, 2, 13}},
		{"\xff\x7f\xff\x80\x00\x01\x80\x00", []int{4, 3, 1, 4, 3, 4, 2, 2}},
		{"\xf0\x0f\x10\x1f\x20\xef", []int{5, 1, 2, 3, 4, 5}},
		{"x", []int{0}},
	} {
		front(t, c.last, symbols.Of(c.last), c.places, api.OK)
		back(t, c.places, symbols.Of(c.last), c.last, api.OK)
	}
}

// P6.2: short texts by each of some lists, also those that lack a byte of them or may not be.
func TestFrontAsTheModel(t *testing.T) {
	lists := slices.Concat(allTexts("abc", 4), []string{all(), "ab\xff", "\x00abcd"})
	for _, s := range slices.Concat(allTexts("ab", 7), allTexts("abc", 5), []string{"aad", "d", "\x00", "ba\xffd"}) {
		for _, list := range lists {
			want, wantE := modelFront(s, list)
			front(t, s, list, want, wantE)
		}
	}
	for _, s := range texts() {
		for _, list := range []string{symbols.Of(s), all(), all()[1:], all()[:255], symbols.Of(s)[1:]} {
			want, wantE := modelFront(s, list)
			front(t, s, list, want, wantE)
		}
	}
}

// P6.2: ErrArg is named ahead of ErrSymbol.
func TestFrontRefuses(t *testing.T) {
	for _, list := range wrongSymbols() {
		for _, s := range []string{"", "a", "b", "z", "\x00", "\xff", "abz"} {
			front(t, s, list, nil, api.ErrArg)
		}
	}
	for _, at := range []int{0, 1, 3, 4} {
		s := "abba"[:at] + "c" + "abba"[at:]
		front(t, s, "ab", nil, api.ErrSymbol)
		front(t, s, "abd", nil, api.ErrSymbol)
		front(t, s, "ba", nil, api.ErrArg)
	}
	for v := range 256 {
		one := string([]byte{byte(v)})
		rest := all()[:v] + all()[v+1:]
		front(t, one, rest, nil, api.ErrSymbol)
		front(t, rest+one, rest, nil, api.ErrSymbol)
		front(t, one, all(), []int{v}, api.OK)
	}
}

// P6.2: short rows of places by each of some lists.
func TestBackAsTheModel(t *testing.T) {
	for _, code := range allTexts("\x00\x01\x02\x03", 5) {
		var l []int
		for i := range len(code) {
			l = append(l, int(code[i]))
		}
		for _, list := range []string{"", "a", "ab", "abc", "abcd", "ba", "\x00\x7f\x80\xff", all()} {
			want, wantE := modelBack(l, list)
			back(t, l, list, want, wantE)
		}
	}
	c := chain(63)
	for _, list := range someSymbols() {
		var l []int
		for range 1 + c.next()%40 {
			l = append(l, c.next()%len(list))
		}
		want, wantE := modelBack(l, list)
		back(t, l, list, want, wantE)
	}
}

// P6.2: each place that there is, and the first ones that are not.
func TestBackRefuses(t *testing.T) {
	for _, list := range []string{"a", "ab", "\x00\xff", all()[:255], all()} {
		for i := range len(list) {
			back(t, []int{i}, list, list[i:i+1], api.OK)
		}
		for _, i := range append(wrongPlaces(len(list)), -len(list)-1) {
			if i >= 0 && i < len(list) {
				continue
			}
			for _, l := range [][]int{{i}, {0, i}, {i, 0}, {0, i, 0}, {len(list) - 1, i}} {
				back(t, l, list, "", api.ErrSymbol)
			}
		}
	}
	for _, list := range wrongSymbols() {
		for _, l := range [][]int{nil, {}, {0}, {-1}, {1 << 40}, {0, 300}} {
			back(t, l, list, "", api.ErrArg)
		}
	}
}

// P6.4
func TestBackOfFront(t *testing.T) {
	for _, s := range slices.Concat(allTexts("ab", 9)[1:], allTexts("\x00\x80\xff", 6)[1:], texts()) {
		for _, list := range []string{symbols.Of(s), all()} {
			l, e := symbols.Front(s, list)
			if e != api.OK || len(l) != len(s) {
				t.Fatalf("%q: %d places, %d", s, len(l), int(e))
			}
			back(t, l, list, s, api.OK)
		}
	}
}

// P6.5
func TestNoughts(t *testing.T) {
	for _, s := range slices.Concat(allTexts("abc", 7)[1:], texts()) {
		for _, list := range []string{symbols.Of(s), all()} {
			l, _ := symbols.Front(s, list)
			for at := 1; at < len(s); at++ {
				if (l[at] == 0) != (s[at] == s[at-1]) {
					t.Fatalf("%q by %q: %d at %d", s, list, l[at], at)
				}
			}
		}
	}
}

// P6.2, P6.4: a text as long as a block's may be, whose bytes all come from the list's end.
func TestLongTexts(t *testing.T) {
	rounds := 2 * api.MaxText / 256
	falling := []byte(all())
	slices.Reverse(falling)
	s := strings.Repeat(string(falling), rounds)
	l, e := symbols.Front(s, all())
	if e != api.OK || len(l) != len(s) {
		t.Fatal(len(l), int(e))
	}
	for at, i := range l {
		if i != 255 {
			t.Fatal(at, i)
		}
	}
	if v, e := symbols.Back(l, all()); v != s || e != api.OK {
		t.Error(len(v), int(e))
	}
	if v := symbols.Of(s); v != all() {
		t.Errorf("%q", v)
	}
	front(t, s+"a", all()[1:], nil, api.ErrSymbol)
}

// Rule 4: what is handed in is not changed, nor its spare room; what is handed out is new. Rule 5: an answer does not hang on what was asked ahead of it.
func TestAnswersAlone(t *testing.T) {
	room := []int{2, 1, 0, 2, 9, 9, 9}
	given := room[:4]
	first, _ := symbols.Back(given, "abc")
	if want := []int{2, 1, 0, 2, 9, 9, 9}; !slices.Equal(room, want) {
		t.Error(room)
	}
	clear(room)
	if first != "caab" {
		t.Errorf("%q", first)
	}
	one, _ := symbols.Front("banana", "abn")
	clear(one)
	front(t, "banana", "abn", []int{1, 1, 2, 1, 1, 1}, api.OK)
	back(t, []int{2, 1, 0, 2}, "abc", "caab", api.OK)
	b := []byte("banana")
	of := symbols.Of(string(b))
	clear(b)
	if of != "abn" {
		t.Errorf("%q", of)
	}
}
