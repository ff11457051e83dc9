package pax_test

import (
	"fmt"
	"strconv"
	"testing"

	"kist/api"
	"kist/pax"
)

// P17.2
func TestDecodeOfTheExamples(t *testing.T) {
	wantNone(t, "9 path=ab\n")
	wantNone(t, "8 path=a\n")
	wantNone(t, "09 path=a\n")
}

// P17.2
func TestDecodeByHand(t *testing.T) {
	for s, l := range map[string][]api.Pair{
		"":                             nil,
		"5 a=\n":                       pairs("a", ""),
		"9 path=a\n":                   pairs("path", "a"),
		"11 path=ab\n":                 pairs("path", "ab"),
		"9 abc===\n":                   pairs("abc", "=="),
		"6  = \n":                      pairs(" ", " "),
		"6 a=\n\n":                     pairs("a", "\n"),
		"8 5 a=\n\n":                   pairs("5 a", "\n"),
		"7 \xff\x00=\x00\n":            pairs("\xff\x00", "\x00"),
		"8 \xff\x00=\x00\n":            nil,
		"5 a=\n5 a=\n":                 pairs("a", "", "a", ""),
		"10 a=5 b=\n":                  nil,
		"11 a=5 b=c\n":                 pairs("a", "5 b=c"),
		"9 path=a\n9 path=b\n":         pairs("path", "a", "path", "b"),
		"19 path=a\n9 path=b\n":        pairs("path", "a\n9 path=b"), // a line end within a value is none of the record's
		"11 a=b\n6 c=d\n":              nil,
		"13 a=b\n6 c=d\n":              pairs("a", "b\n6 c=d"),
		"9 a\nb\n5=\n":                 pairs("a\nb\n5", ""),
		"10 a\nb\n5=\n":                nil, // it has ten bytes, and nine would do
		"9 a\n \n5=\n":                 pairs("a\n \n5", ""),
		"9 path=a\n11 path=ab\n5 a=\n": pairs("path", "a", "path", "ab", "a", ""),
	} {
		if l == nil && s != "" {
			wantNone(t, s)
		} else {
			wantDecode(t, s, l, api.OK)
		}
	}
}

// P17.2: no length, no key, no value, no end, and lengths that are none.
func TestDecodeOfWhatIsNone(t *testing.T) {
	for _, s := range []string{
		" ", "=", "\n", "\x00", "a", "0", "1", "5", "9", "0 ", "1 ", "2 ", "3 \n", "3 =", "4 =\n", "5 =a\n", "5 ==\n", "4 a\n", "4 a=", "5 a\n\n", "5 a=a", "5 a= ", "5 a=\x00", "5 a=\r", "6 a=\r\n\n",
		"0 a=\n", "1 a=\n", "2 a=\n", "3 a=\n", "4 a=\n", "6 a=\n", "7 a=\n", "05 a=\n", "005 a=\n", "06 a=\n", "+5 a=\n", "-5 a=\n", " 5 a=\n", "5  a=\n", "5a=\n", "5\ta=\n", "5\na=\n", "5\x00a=\n", "5.0 a=\n", "5e0 a=\n", "0x5 a=\n", "a=\n", " a=\n", "\n5 a=\n", "5 a=\n\n", "5 a=\n ", "5 a=\n\x00", "5 a=\n5", "5 a=\n5 ", "5 a=\n5 a", "5 a=\n5 a=", "5 a=\n0", "5 a=\n5 a=\n\x00",
		"-1 a=\n", "18446744073709551621 a=\n", "4294967301 a=\n", "9007199254740992 a=\n", "9007199254740993 a=\n", "9223372036854775807 a=\n", "9223372036854775808 a=\n", "-9223372036854775803 a=\n", letters("9", 400) + " a=\n", letters("0", 400) + "5 a=\n",
		"\xb2 a=\n", "\u0665 a=\n", "\uff15 a=\n",
		letters("5", 262144), letters(" ", 262144), letters("\n", 262144), letters("=", 262144), letters("1 ", 131072), letters("0", 262139) + " a=b\n", letters("\x00", 512),
	} {
		wantNone(t, s)
		if len(s) < 1000 {
			wantNone(t, "9 path=a\n"+s)
			wantNone(t, letters("5 a=\n", 100)+s)
		}
	}
}

// P17.2: of each size only the least length is right, whatever else is told; another one may take what stands behind, but is none either.
func TestDecodeOfLengths(t *testing.T) {
	for n := range 130 {
		behind := " k=" + letters("v", n) + "\n"
		right := modelRecord(api.Pair{Key: "k", Value: letters("v", n)})
		for said := range 300 {
			s := strconv.Itoa(said) + behind
			if s == right {
				wantDecode(t, s, pairs("k", letters("v", n)), api.OK)
				wantDecode(t, s+s, pairs("k", letters("v", n), "k", letters("v", n)), api.OK)
			} else {
				wantNone(t, s)
			}
			wantNone(t, "0"+s)
			likeDecode(t, s+"5 a=\n")
			likeDecode(t, s+"\n\n")
			likeDecode(t, s+s)
			likeDecode(t, right+s)
		}
	}
	for _, n := range sizes() {
		behind := " k=" + letters("v", n) + "\n"
		for said := len(behind); said < len(behind)+12; said++ {
			likeDecode(t, strconv.Itoa(said)+behind)
		}
	}
}

// P17.2: where two lengths would do, a text with the greater one is no record.
func TestDecodeAtOneDigitMore(t *testing.T) {
	wantNone(t, "10 path=a\n")
	for behind, two := range map[int][2]int{8: {9, 10}, 97: {99, 100}, 996: {999, 1000}, 9995: {9999, 10000}, 99994: {99999, 100000}} {
		value := letters("v", behind-4)
		least, other := strconv.Itoa(two[0])+" k="+value+"\n", strconv.Itoa(two[1])+" k="+value+"\n"
		if len(least) != two[0] || len(other) != two[1] {
			t.Fatal(two)
		}
		wantDecode(t, least, pairs("k", value), api.OK)
		wantNone(t, other)
		wantNone(t, least+other)
		wantNone(t, other+least)
	}
}

// P17.2: all short texts.
func TestDecodeOfShortTexts(t *testing.T) {
	found := 0
	hold := func(s string) {
		likeDecode(t, s)
		if _, e := pax.Decode(s); e == api.OK {
			found++
		}
	}
	eachText("5678 =a\n", 7, hold)
	eachText("59 =a\n", 8, hold)
	if found < 1000 {
		t.Fatal(found)
	}
}

// P17.2: records in which a byte is another one, gone, or put in.
func TestDecodeOfChangedTexts(t *testing.T) {
	for _, l := range [][]api.Pair{pairs("path", "a"), pairs("path", "ab"), pairs("a", "", "b", "\n"), pairs("5 a", "5 b=\n", "ab", "cdef", "x y", "=="), pairs("k", letters("v", 95), "k", letters("v", 92)), pairs("\n", "6 =\n", " ", "9 \n=\n")} {
		s, _ := modelEncode(l)
		wantDecode(t, s, l, api.OK)
		changed(s, func(s string) { likeDecode(t, s) })
	}
}

// P17.2: a text that is cut off is records only if it is cut between two.
func TestDecodeOfCutTexts(t *testing.T) {
	l := pairs("path", "a", "path", "ab", "mtime", "1234567890.5", "k", letters("v", 200), "a", "\n\n\n", "a", "")
	s, _ := modelEncode(l)
	ends := map[int]int{0: 0}
	at := 0
	for i, p := range l {
		at += len(modelRecord(p))
		ends[at] = i + 1
	}
	for n := range len(s) + 1 {
		if k, between := ends[n]; between {
			wantDecode(t, s[:n], l[:k], api.OK)
			wantDecode(t, s[n:], l[k:], api.OK)
		} else {
			wantNone(t, s[:n])
			likeDecode(t, s[n:])
		}
	}
}

// P17.2: MaxText bytes may be, one more may not, and that is told ahead of all else.
func TestDecodeAtTheLimit(t *testing.T) {
	long := pairs("k", letters("v", 262134))
	s := "262144 k=" + long[0].Value + "\n"
	wantDecode(t, s, long, api.OK)
	wantNone(t, s[1:])
	wantDecode(t, "262145 k="+letters("v", 262135)+"\n", nil, api.ErrBig)
	wantDecode(t, s+"5 k=\n", nil, api.ErrBig)

	many := make([]api.Pair, 52428)
	for i := range many {
		many[i].Key = "k"
	}
	s = letters("5 k=\n", 52428)
	wantDecode(t, s, many, api.OK)
	wantDecode(t, s+"5 k=\n", nil, api.ErrBig)
	many[52427].Value = "abcd"
	wantDecode(t, s[:262135]+"9 k=abcd\n", many, api.OK)
	wantDecode(t, s[:262135]+"11 k=abcde\n", nil, api.ErrBig)

	for _, piece := range []string{"\x00", "a", "5", " ", "=", "\n", "5 k=\n"} {
		for _, n := range []int{262145, 262146, 300000, 1 << 20, 1 << 26} {
			wantDecode(t, letters(piece, n/len(piece)+1)[:n], nil, api.ErrBig)
		}
		if piece != "5 k=\n" {
			wantNone(t, letters(piece, 262144))
		}
	}
}

// P17.2: texts of all kinds of pieces.
func TestDecodeAsTheModel(t *testing.T) {
	c := chain(172)
	pieces := []string{"5", "6", "9", "10", "11", "12", " ", " ", "=", "=", "\n", "\n", "a", "path", "0", "\x00", "5 a=\n", "9 path=a\n"}
	for range 200000 {
		s := ""
		for range c.length(9) {
			s += pieces[c.next()%len(pieces)]
		}
		likeDecode(t, s)
	}
	for range 20000 { // a length that is right, mostly, ahead of what may be none
		s := ""
		for range 1 + c.next()%3 {
			told := c.text(c.length(30))
			if c.next()%3 > 0 {
				told = "k=" + told + "\n"
			}
			s += fmt.Sprintf("%d %s", len(told)+2+c.next()%3, told)
		}
		likeDecode(t, s)
	}
}

// P17.4
func TestDecodeOfEncode(t *testing.T) {
	c := chain(174)
	for range 5000 {
		l := c.list(c.length(12), 120)
		s, e := pax.Encode(l)
		if e != api.OK {
			t.Fatal(short(l), int(e))
		}
		wantDecode(t, s, l, api.OK)
	}
	for range 40 {
		l := c.list(c.length(40), 20000)
		if s, e := pax.Encode(l); e == api.OK {
			wantDecode(t, s, l, api.OK)
		}
	}
}

// P17.4
func TestEncodeOfDecode(t *testing.T) {
	eachText("56 =a\n", 7, func(s string) {
		if l, e := pax.Decode(s); e == api.OK {
			wantEncode(t, l, s, api.OK)
		}
	})
	s, _ := modelEncode(pairs("5 a", "5 b=\n", "ab", "cdef", "x y", "=="))
	changed(s, func(s string) {
		if l, e := pax.Decode(s); e == api.OK {
			wantEncode(t, l, s, api.OK)
		}
	})
}

// P17.4: of two texts, one behind the other, it is both texts' pairs.
func TestDecodeOfTwoTexts(t *testing.T) {
	c := chain(175)
	for range 3000 {
		a, b := c.list(c.length(6), 120), c.list(c.length(6), 120)
		s, _ := pax.Encode(a)
		u, _ := pax.Encode(b)
		wantDecode(t, s+u, append(a[:len(a):len(a)], b...), api.OK)
		wantDecode(t, u+s, append(b[:len(b):len(b)], a...), api.OK)
		wantNone(t, s+u+"\x00")
	}
}

// P17.2: each answer is a list of its own.
func TestDecodeHandsOutNewLists(t *testing.T) {
	s := "9 path=a\n6 a=b\n"
	one, _ := pax.Decode(s)
	one[0].Value = "other"
	one = append(one[:1], api.Pair{Key: "other"})
	wantDecode(t, s, pairs("path", "a", "a", "b"), api.OK)
	if len(one) != 2 || one[0].Value != "other" || one[1].Key != "other" {
		t.Fatal(one)
	}
}
