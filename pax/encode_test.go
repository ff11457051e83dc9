package pax_test

import (
	"strconv"
	"testing"

	"kist/api"
	"kist/pax"
)

// P17.1
func TestEncodeOfTheExamples(t *testing.T) {
	wantEncode(t, pairs("path", "a"), "9 path=a\n", api.OK)
	wantEncode(t, pairs("path", "ab"), "11 path=ab\n", api.OK)
}

// P17.1
func TestEncodeByHand(t *testing.T) {
	wantEncode(t, nil, "", api.OK)
	wantEncode(t, []api.Pair{}, "", api.OK)
	wantEncode(t, pairs("a", ""), "5 a=\n", api.OK)
	wantEncode(t, pairs("a", "b"), "6 a=b\n", api.OK)
	wantEncode(t, pairs("abc", "=="), "9 abc===\n", api.OK)
	wantEncode(t, pairs("size", "1024"), "13 size=1024\n", api.OK)
	wantEncode(t, pairs("a", "\n"), "6 a=\n\n", api.OK)
	wantEncode(t, pairs(" ", " "), "6  = \n", api.OK)
	wantEncode(t, pairs("5 a", "\n"), "8 5 a=\n\n", api.OK)
	wantEncode(t, pairs("\n\x00", "\x00"), "7 \n\x00=\x00\n", api.OK)
	wantEncode(t, pairs("path", "a", "path", "ab", "a", "", "path", "a"), "9 path=a\n11 path=ab\n5 a=\n9 path=a\n", api.OK)
}

// P17.1: an empty key, a key with a =, and any other key.
func TestEncodeOfKeys(t *testing.T) {
	for _, key := range []string{"", "=", "==", "a=", "=a", "a=b", "=\n", letters("a", 300) + "=", "=" + letters("a", 300)} {
		for _, value := range []string{"", "v", "=", letters("v", 300)} {
			wantEncode(t, pairs(key, value), "", api.ErrPax)
			wantEncode(t, pairs("a", "b", key, value), "", api.ErrPax)
			wantEncode(t, pairs(key, value, "a", "b"), "", api.ErrPax)
			wantEncode(t, pairs("a", "b", key, value, "c", "d"), "", api.ErrPax)
		}
	}
	for v := range 256 {
		for _, key := range []string{byteText(v), "a" + byteText(v), byteText(v) + "a", "a" + byteText(v) + "b"} {
			for _, value := range []string{"", "v", byteText(v), "a" + byteText(v), byteText(v) + "a"} {
				likeEncode(t, pairs(key, value))
				if _, e := pax.Encode(pairs(key, value)); (e == api.OK) != (v != '=') {
					t.Fatal(v, int(e))
				}
			}
		}
	}
}

// sizes are those that are near one with a digit more, and many others.
func sizes() []int {
	var l []int
	for n := range 1300 {
		l = append(l, n)
	}
	for _, around := range []int{9990, 99990, 200000, 262120} {
		for n := range 40 {
			l = append(l, around-20+n)
		}
	}
	return l
}

// P17.1: each size, the digits among it, whether the key or the value is long.
func TestEncodeOfSizes(t *testing.T) {
	for _, n := range sizes() {
		likeEncode(t, pairs("k", letters("v", n)))
		likeEncode(t, pairs(letters("k", n+1), ""))
		likeEncode(t, pairs(letters("k", n/2+1), letters("=", n-n/2)))
		s, e := pax.Encode(pairs("k", letters("v", n)))
		if digits := strconv.Itoa(len(s)); e == api.OK && s[:len(digits)+1] != digits+" " {
			t.Fatalf("%d bytes begin with %.10q", len(s), s)
		}
	}
}

// P17.1: where two sizes would do, the least is told; where the digits make it greater, it is.
func TestEncodeAtOneDigitMore(t *testing.T) {
	for behind, want := range map[int]int{4: 5, 7: 8, 8: 9, 9: 11, 10: 12, 96: 98, 97: 99, 98: 101, 99: 102, 995: 998, 996: 999, 997: 1001, 998: 1002, 9994: 9998, 9995: 9999, 9996: 10001, 9997: 10002, 99993: 99998, 99994: 99999, 99995: 100001, 99996: 100002, 262137: 262143, 262138: 262144} {
		value := letters("v", behind-4)
		wantEncode(t, pairs("k", value), strconv.Itoa(want)+" k="+value+"\n", api.OK)
	}
}

// P17.1: MaxText bytes may be, one more may not, whatever they are made of.
func TestEncodeAtTheLimit(t *testing.T) {
	wantEncode(t, pairs("k", letters("v", 262134)), "262144 k="+letters("v", 262134)+"\n", api.OK)
	for n := 262135; n < 262200; n++ {
		wantEncode(t, pairs("k", letters("v", n)), "", api.ErrBig)
		wantEncode(t, pairs(letters("k", n), "v"), "", api.ErrBig)
	}
	wantEncode(t, pairs(letters("k", 1<<26), ""), "", api.ErrBig)
	wantEncode(t, pairs("k", letters("v", 1<<26)), "", api.ErrBig)
	wantEncode(t, pairs("k", letters("v", 1<<26), "k", ""), "", api.ErrBig)

	var l []api.Pair
	for range 52428 {
		l = append(l, api.Pair{Key: "k"})
	}
	wantEncode(t, l, letters("5 k=\n", 52428), api.OK) // 262140 bytes
	l[0].Value = "abcd"                                // all but the least size that has two digits
	wantEncode(t, l, "9 k=abcd\n"+letters("5 k=\n", 52427), api.OK)
	l[0].Value = "abc"
	l[52427].Value = "a"
	wantEncode(t, l, "8 k=abc\n"+letters("5 k=\n", 52426)+"6 k=a\n", api.OK)
	for i := range 100 {
		l[i*500+7].Value += "a"
		wantEncode(t, l, "", api.ErrBig)
		l[i*500+7].Value = ""
	}
	l = append(l, api.Pair{Key: "k"})
	wantEncode(t, l, "", api.ErrBig)

	much := pairs("k", letters("v", 1<<20))[0] // a list of some 2^36 bytes, of which each pair has the same
	for range 1 << 16 {
		l = append(l, much)
	}
	wantEncode(t, l, "", api.ErrBig)
	wantEncode(t, l[60000:], "", api.ErrBig)
}

// P17.1: a key that may not be is told ahead of too many bytes, wherever it stands.
func TestEncodeTellsKeysFirst(t *testing.T) {
	much := letters("v", 300000)
	for _, key := range []string{"", "=", "a=", letters("a", 300000) + "="} {
		wantEncode(t, pairs(key, much), "", api.ErrPax)
		wantEncode(t, pairs("k", much, key, ""), "", api.ErrPax)
		wantEncode(t, pairs(key, "", "k", much), "", api.ErrPax)
		wantEncode(t, pairs("k", much, "k", much, "k", "v", key, "v", "k", much), "", api.ErrPax)
	}
	wantEncode(t, pairs("k", much, "k", ""), "", api.ErrBig)
}

// P17.1: lists of all kinds of pairs.
func TestEncodeAsTheModel(t *testing.T) {
	c := chain(171)
	for range 5000 {
		likeEncode(t, c.list(c.length(12), 120))
	}
	for range 40 {
		likeEncode(t, c.list(c.length(40), 20000))
	}
	for range 3000 {
		l := c.list(1+c.length(12), 20)
		l[c.next()%len(l)].Key = c.text(c.length(4))
		likeEncode(t, l)
	}
}

// P17.1: what stands behind a list in its spare room is left as it is.
func TestEncodeLeavesSpareRoom(t *testing.T) {
	l := pairs("a", "b", "c", "d", "e", "f")
	wantEncode(t, l[:1], "6 a=b\n", api.OK)
	wantEncode(t, l[1:2], "6 c=d\n", api.OK)
	wantEncode(t, l, "6 a=b\n6 c=d\n6 e=f\n", api.OK)
}
