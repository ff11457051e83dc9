package tar_test

import (
	"testing"

	"kist/api"
	"kist/paths"
	"kist/tar"
)

// The first fields of each header here, behind its name: Mode and who it belongs to; and those behind its sum and its Kind.
const owned = "0000644\x00" + "0000000\x00" + "0000000\x00"

func marked() string {
	return noughts(100) + "ustar\x00" + "00" + noughts(64) + "0000000\x00" + "0000000\x00"
}

// hello is what the first example asks for.
func hello() string {
	return "a" + noughts(99) + owned + "00000000005\x00" + "00000000000\x00" + "007343\x00 " + "0" + marked() + noughts(167) +
		"hello" + noughts(507)
}

// P18.1
func TestEntryOfTheExamples(t *testing.T) {
	if len(hello()) != 1024 {
		t.Fatal(len(hello()))
	}
	wantEntry(t, "a", "hello", hello(), api.OK)
	for _, data := range []string{"", "hello", letters("x", 512)} {
		s, _ := tar.Entry(api.Entry{Path: "a", Data: data})
		long, e := tar.Entry(api.Entry{Path: letters("a", 110), Data: data})
		if len(long) != len(s)+1024 || e != api.OK {
			t.Fatal(len(s), len(long), int(e))
		}
	}
}

// P18.1: paths of 100 bytes, of a prefix and a name, and of pairs.
func TestEntryByHand(t *testing.T) {
	p := letters("p", 100)
	wantEntry(t, p, "", p+owned+"00000000000\x00"+"00000000000\x00"+"035075\x00 "+"0"+marked()+noughts(167), api.OK)

	d, f := letters("d", 30), letters("f", 80)
	wantEntry(t, d+"/"+f, "12", f+noughts(20)+owned+"00000000002\x00"+"00000000000\x00"+"035027\x00 "+"0"+marked()+d+noughts(125)+noughts(12)+
		"12"+noughts(510), api.OK)

	q := letters("q", 110)
	wantEntry(t, q, "hello", "pax"+noughts(97)+owned+"00000000170\x00"+"00000000000\x00"+"010026\x00 "+"x"+marked()+noughts(167)+
		"120 path="+q+"\n"+noughts(392)+
		q[:100]+owned+"00000000005\x00"+"00000000000\x00"+"035246\x00 "+"0"+marked()+noughts(167)+
		"hello"+noughts(507), api.OK)
}

// P18.1: what Check of paths does not take.
func TestEntryRefusesPaths(t *testing.T) {
	for _, p := range []string{"", "/", ".", "..", "a/", "/a", "a//b", "./a", "a/.", "a/..", "../a", "a/../b", "a\x00", "a\n", "\x1f", "\x7f", "gr\u00fcn", letters("a", 121), letters("a", 60) + "/" + letters("b", 60), letters("a", 256)} {
		for _, data := range []string{"", "hello", letters("x", 262144), letters("x", 262145), letters("x", 600000)} {
			wantEntry(t, p, data, "", api.ErrPath)
		}
	}
	for v := range 256 {
		for _, p := range []string{byteText(v), "a" + byteText(v), byteText(v) + "a", "a" + byteText(v) + "b", letters("a", 110) + byteText(v)} {
			likeEntry(t, p, "data")
			if _, e := tar.Entry(api.Entry{Path: p}); e != paths.Check(p) {
				t.Fatalf("%q %d", p, int(e))
			}
		}
	}
}

// P18.1: each length of a path, with a slash at each place.
func TestEntryOfPaths(t *testing.T) {
	for n := range 130 {
		likeEntry(t, letters("a", n), "hello")
		for at := range n {
			likeEntry(t, letters("d", at)+"/"+letters("f", n-at-1), "")
			if n > 95 && at < n-7 {
				for gap := 1; gap < 7; gap++ {
					likeEntry(t, letters("d", at)+"/"+letters("e", gap)+"/"+letters("f", n-at-gap-2), "x")
				}
			}
		}
	}
}

// P18.1: each length of data, up to three sectors, and the greatest ones.
func TestEntryOfData(t *testing.T) {
	for _, p := range []string{"a", letters("d", 50) + "/" + letters("f", 60), letters("a", 120)} {
		for n := range 1600 {
			likeEntry(t, p, letters("x", n))
		}
		for _, n := range []int{100000, 261632, 261633, 262143, 262144} {
			likeEntry(t, p, letters("x", n))
			likeEntry(t, p, noughts(n))
			if s, e := tar.Entry(api.Entry{Path: p, Data: noughts(n)}); e != api.OK || len(s)%512 != 0 || len(s) < n+512 {
				t.Fatal(n, len(s), int(e))
			}
		}
		for _, n := range []int{262145, 262656, 300000, 524288, 1 << 20} {
			wantEntry(t, p, letters("x", n), "", api.ErrBig)
		}
	}
	for v := range 256 {
		for _, data := range []string{byteText(v), letters(byteText(v), 512), letters("x", 511) + byteText(v), letters("x", 512) + byteText(v)} {
			likeEntry(t, "a", data)
		}
	}
}

// P18.1: files of all kinds.
func TestEntryAsTheModel(t *testing.T) {
	c := chain(181)
	for range 5000 {
		file := c.file()
		likeEntry(t, file.Path, file.Data)
	}
}

// P18.6: Read of Entry, whatever stands behind it, is the file.
func TestReadOfEntry(t *testing.T) {
	c := chain(186)
	for range 3000 {
		file := c.file()
		s, e := tar.Entry(file)
		if e != api.OK {
			t.Fatalf("%q %d", file.Path, int(e))
		}
		behind := c.oneOf("", noughts(512), s, c.bytes(c.length(2000)), extended("path", "b"))
		wantRead(t, s+behind, file.Path, file.Data, len(s), api.OK)
		wantRead(t, s[:c.next()%len(s)], "", "", 0, api.ErrTar)
	}
	for n := 1; n <= 120; n++ {
		p := letters("a", n)
		s, _ := tar.Entry(api.Entry{Path: p, Data: p})
		wantFile(t, s, p, p)
		for at := 1; at < n-1; at++ {
			p := letters("d", at) + "/" + letters("f", n-at-1)
			s, _ := tar.Entry(api.Entry{Path: p, Data: letters("x", at*10)})
			wantRead(t, s, p, letters("x", at*10), len(s), api.OK)
		}
	}
	greatest := c.bytes(262144)
	for _, p := range []string{"a", letters("a", 120)} {
		s, _ := tar.Entry(api.Entry{Path: p, Data: greatest})
		wantFile(t, s, p, greatest)
	}
}
