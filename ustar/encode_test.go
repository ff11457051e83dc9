package ustar_test

import (
	"math"
	"strings"
	"testing"

	"kist/api"
	"kist/ustar"
)

// P16.1
func TestEncodeOfTheExamples(t *testing.T) {
	want := "a" + noughts(99) +
		"0000644\x00" + "0000000\x00" + "0000000\x00" +
		"00000000005\x00" + "00000000000\x00" +
		"007343\x00 " +
		"0" + noughts(100) +
		"ustar\x00" + "00" + noughts(32) + noughts(32) +
		"0000000\x00" + "0000000\x00" +
		noughts(155) + noughts(12)
	wantEncode(t, api.Head{Path: "a", Size: 5, Kind: '0', Mode: 420}, want, api.OK)
	wantEncode(t, api.Head{Path: letters("a", 101), Kind: '0'}, "", api.ErrPath)
}

// P16.1: each field in a header of which none is empty.
func TestEncodeByHand(t *testing.T) {
	h, want := byHand()
	wantEncode(t, h, want, api.OK)
	likeEncode(t, h)
}

// P16.1: all that a header has room for.
func TestEncodeOfTheGreatest(t *testing.T) {
	h := api.Head{
		Path: letters("\xff", 155) + "/" + letters("\xff", 100), Size: 1<<33 - 1, Kind: 'x', Mode: 1<<21 - 1, Time: 1<<33 - 1, Link: letters("\xff", 100),
		Names: [2]string{letters("\xff", 31), letters("\xff", 31)}, Ids: [2]int{1<<21 - 1, 1<<21 - 1},
	}
	want := letters("\xff", 100) +
		"7777777\x00" + "7777777\x00" + "7777777\x00" +
		"77777777777\x00" + "77777777777\x00" +
		"327503\x00 " +
		"x" + letters("\xff", 100) +
		"ustar\x00" + "00" + letters("\xff", 31) + "\x00" + letters("\xff", 31) + "\x00" +
		"0000000\x00" + "0000000\x00" +
		letters("\xff", 155) + noughts(12)
	wantEncode(t, h, want, api.OK)
	likeEncode(t, h)
}

// numberFields are the fields of numbers, and how many bits each has room for.
func numberFields() []numberField {
	return []numberField{
		{modeAt, 21, func(h *api.Head) *int { return &h.Mode }},
		{userAt, 21, func(h *api.Head) *int { return &h.Ids[0] }},
		{groupAt, 21, func(h *api.Head) *int { return &h.Ids[1] }},
		{sizeAt, 33, func(h *api.Head) *int { return &h.Size }},
		{timeAt, 33, func(h *api.Head) *int { return &h.Time }},
	}
}

type numberField struct {
	at   span
	bits int
	of   func(h *api.Head) *int
}

// P16.1: the edges of each number.
func TestEncodeOfNumbers(t *testing.T) {
	for _, f := range numberFields() {
		most := 1<<f.bits - 1
		for _, n := range []int{0, 1, 7, 8, 9, 63, 64, 511, 512, 4095, most / 2, most - 8, most - 1, most} {
			h := file()
			*f.of(&h) = n
			likeEncode(t, h)
			s, e := ustar.Encode(h)
			if e != api.OK {
				t.Fatal(f.at, n, int(e))
			}
			wantAlone(t, s, f.at)
		}
		for _, n := range []int{-1, -2, -8, -most, -most - 1, math.MinInt, math.MinInt + 1, most + 1, most + 2, most + 8, 2*most + 1, 2*most + 2, 8 * most, 8*most + 8, 1 << 53, 1<<53 + 1, math.MaxInt - most, math.MaxInt - 1, math.MaxInt} {
			h := file()
			*f.of(&h) = n
			wantEncode(t, h, "", api.ErrHeader)
		}
		for k := range 63 {
			h := file()
			*f.of(&h) = 1 << k
			likeEncode(t, h)
		}
	}
}

// wantAlone holds that a header is as that of file but for a field and the sum.
func wantAlone(t *testing.T, s string, at span) {
	t.Helper()
	other, e := ustar.Encode(file())
	if e != api.OK {
		t.Fatal(int(e))
	}
	if s != summed(laid(other, at, at.of(s))) {
		t.Fatalf("%v: %q, %q", at, s, other)
	}
}

type textField struct {
	at   span
	most int
	of   func(h *api.Head) *string
}

// textFields are the fields of texts but the path's, and how many bytes each has room for.
func textFields() []textField {
	return []textField{
		{linkAt, 100, func(h *api.Head) *string { return &h.Link }},
		{unameAt, 31, func(h *api.Head) *string { return &h.Names[0] }},
		{gnameAt, 31, func(h *api.Head) *string { return &h.Names[1] }},
	}
}

// P16.1: each length of each text.
func TestEncodeOfTexts(t *testing.T) {
	for _, f := range textFields() {
		for n := range 700 {
			h := file()
			*f.of(&h) = letters("\xe9", n)
			likeEncode(t, h)
			if n > f.most {
				wantEncode(t, h, "", api.ErrHeader)
				continue
			}
			s, e := ustar.Encode(h)
			if e != api.OK {
				t.Fatal(f.at, n, int(e))
			}
			wantAlone(t, s, f.at)
		}
	}
}

// P16.1: each byte may stand in a text, but 0.
func TestEncodeOfBytesOfTexts(t *testing.T) {
	for _, f := range textFields() {
		for v := range 256 {
			for _, s := range []string{byteText(v), "a" + byteText(v), byteText(v) + "a", "a" + byteText(v) + "b"} {
				h := file()
				*f.of(&h) = s
				likeEncode(t, h)
				if v == 0 {
					wantEncode(t, h, "", api.ErrHeader)
				}
			}
		}
		for at := range f.most {
			h := file()
			*f.of(&h) = letters("a", at) + "\x00" + letters("a", f.most-at-1)
			wantEncode(t, h, "", api.ErrHeader)
		}
	}
}

// P16.1: four kinds.
func TestEncodeOfKinds(t *testing.T) {
	for v := range 256 {
		h := file()
		h.Kind = byte(v)
		likeEncode(t, h)
		s, e := ustar.Encode(h)
		if may := v == '0' || v == '5' || v == 'x' || v == 'g'; may != (e == api.OK) {
			t.Fatal(v, int(e))
		}
		if e == api.OK {
			wantAlone(t, s, kindAt)
		}
	}
}

// P16.1: a path is as Split tells it, whatever it is.
func TestEncodeOfPaths(t *testing.T) {
	for n := range 400 {
		for _, piece := range []string{"a", "/", "a/", "/a", "//a", "aaaaaaaaaaaaaaa/", ".", "../", "\xff", "\n/", " "} {
			h := file()
			h.Path = strings.Repeat(piece, n)[:n]
			likeEncode(t, h)
		}
	}
	for n := range 320 {
		for at := range n {
			h := file()
			h.Path = letters("a", at) + "/" + letters("b", n-at-1)
			likeEncode(t, h)
		}
	}
}

// P16.1: a path that isn't there, or can't be parted, is told ahead of all else.
func TestEncodeTellsPathsFirst(t *testing.T) {
	wrong := []func(h *api.Head){
		func(h *api.Head) {},
		func(h *api.Head) { h.Kind = '1' },
		func(h *api.Head) { h.Mode = -1 },
		func(h *api.Head) { h.Ids[0] = 1 << 21 },
		func(h *api.Head) { h.Ids[1] = -1 },
		func(h *api.Head) { h.Size = -1 },
		func(h *api.Head) { h.Time = 1 << 33 },
		func(h *api.Head) { h.Link = letters("a", 101) },
		func(h *api.Head) { h.Names[0] = "\x00" },
		func(h *api.Head) { h.Names[1] = letters("a", 32) },
	}
	for n, spoil := range wrong {
		for _, path := range []string{"", letters("a", 101), letters("a", 156) + "/b", "a/" + letters("b", 101), letters("a", 102) + "/", "/" + letters("b", 101), letters("\x00", 101), letters("a", 1000)} {
			h := file()
			h.Path = path
			spoil(&h)
			wantEncode(t, h, "", api.ErrPath)
		}
		h := file()
		spoil(&h)
		if n > 0 {
			wantEncode(t, h, "", api.ErrHeader)
		}
		for _, spoilMore := range wrong {
			spoilMore(&h)
		}
		wantEncode(t, h, "", api.ErrHeader)
	}
	wantEncode(t, api.Head{}, "", api.ErrPath)
	wantEncode(t, api.Head{Path: "a"}, "", api.ErrHeader)
	likeEncode(t, api.Head{Path: "a", Kind: '0'})
}

// P16.1: a byte 0 at each place of a path.
func TestEncodeOfPathsWithAByte0(t *testing.T) {
	for _, path := range []string{"a", "dir/hello.txt", letters("a", 100), letters("a", 155) + "/" + letters("b", 100), letters("a", 60) + "/" + letters("b/", 30)} {
		for at := range path {
			h := file()
			h.Path = path[:at] + "\x00" + path[at+1:]
			want := api.ErrHeader
			if _, _, ok := parted(h.Path); !ok {
				want = api.ErrPath
			}
			wantEncode(t, h, "", want)
		}
	}
}

// P16.1
func TestEncodeAsTheModel(t *testing.T) {
	c := chain(161)
	for range 5000 {
		likeEncode(t, c.head())
	}
}
