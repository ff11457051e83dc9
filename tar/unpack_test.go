package tar_test

import (
	"slices"
	"strings"
	"testing"

	"kist/api"
	"kist/tar"
)

// P18.4
func TestUnpackOfTheExamples(t *testing.T) {
	wantUnpack(t, noughts(512), nil, api.OK)
	wantUnpack(t, noughts(1024), nil, api.OK)
	wantNone(t, "")
}

// P18.4: files, and what is passed over ahead of them, between them and behind them.
func TestUnpackByHand(t *testing.T) {
	a, b := part("a", '0', "hello"), extended("path", "b")+part("./c", 0, letters("x", 513))
	files := list("a", "hello", "b", letters("x", 513))
	for _, between := range []string{
		"",
		part("d", '5', ""), part("d/", '5', ""), part("..", '5', ""), part("\x01", '5', ""), part("d", '5', "data"), part("d", '5', letters("x", 512)), part("d", '5', letters("x", 513)), part("d", '5', a),
		part("g", 'g', ""), part("g", 'g', records("path", "q", "size", "0")), part("/", 'g', "no pairs"), part("g", 'g', noughts(512)), part("g", 'g', a+a), part("g", 'g', letters("x", 1024)),
		part("d", '5', "") + part("g", 'g', "data") + part("e", '5', "data") + part("f", '5', ""),
		header("d", "", '5', 5) + letters("x", 512), header("g", "", 'g', 5) + letters("x", 512), header("d", "", '5', 513) + letters("x", 1024),
	} {
		s := between + a + between + b + between + noughts(512)
		wantUnpack(t, s, files, api.OK)
		wantUnpack(t, s+"anything", files, api.OK)
		wantUnpack(t, s+a, files, api.OK)
		wantUnpack(t, between+between+noughts(512), nil, api.OK)
		wantNone(t, s[:len(s)-512])
		wantNone(t, s[:len(s)-1])
		wantNone(t, between)
	}
	wantUnpack(t, a+a+b+a+noughts(512), list("a", "hello", "a", "hello", "b", letters("x", 513), "a", "hello"), api.OK)
	wantUnpack(t, noughts(512)+a+noughts(512), nil, api.OK)
	wantUnpack(t, a+noughts(512)+b+noughts(512), files[:1], api.OK)
}

// P18.4: each kind of header.
func TestUnpackOfKinds(t *testing.T) {
	for v := range 256 {
		kind := byte(v)
		one := header("b", "", kind, 5) + "hello" + padding(5)
		for _, ahead := range []string{"", hello(), part("d", '5', "")} {
			s := ahead + one + hello() + noughts(512)
			files := list("a", "hello")
			if ahead == hello() {
				files = list("a", "hello", "a", "hello")
			}
			switch kind {
			case 0, '0':
				wantUnpack(t, s, slices.Insert(files, len(files)-1, api.Entry{Path: "b", Data: "hello"}), api.OK)
			case '5', 'g':
				wantUnpack(t, s, files, api.OK)
			default:
				wantNone(t, s)
			}
		}
	}
}

// P18.4: what Read does not read, and what is no header, wherever it stands ahead of the end.
func TestUnpackRefuses(t *testing.T) {
	file, directory := hello(), part("d", '5', "")
	for _, wrong := range []string{
		part("..", '0', ""), part("a\n", '0', "hello"), part("l", '1', ""), part("L", 'L', "a"), part("a", '7', "hello"),
		extended("path", "d") + directory, extended("path", "d") + part("g", 'g', ""), extended("path", "a") + extended("path", "a") + file, extended() + noughts(512), extended("path", "..") + file, extended("size", "05") + file, extended("size", "9999999") + file,
		part("pax", 'x', "no pairs") + file, letters("x", 512), letters(" ", 512), noughts(511) + "\x01", "\x01" + noughts(511), noughts(255) + "\x01" + noughts(256), "x", noughts(100) + "x", file[:511], file[:512], file[:513], file[512:],
		header("d", "", '5', 1<<33-1), header("g", "", 'g', 1<<33-1), header("a", "", '0', 1<<33-1), header("pax", "", 'x', 1<<33-1),
	} {
		for _, ahead := range []string{"", file, directory, file + directory + file} {
			wantNone(t, ahead+wrong)
			wantNone(t, ahead+wrong+noughts(512))
			wantNone(t, ahead+wrong+file+noughts(1024))
			if l, e := tar.Unpack(ahead + noughts(512) + wrong); e != api.OK || len(l) != strings.Count(ahead, file) {
				t.Fatal(short(ahead), short(wrong), shortList(l), int(e))
			}
		}
	}
}

// P18.4: a text that ends too soon, at each byte.
func TestUnpackOfTextsCutOff(t *testing.T) {
	s := part("g", 'g', records("a", "b")) + hello() + part("d", '5', "x") + extended("path", "b") + part("a", '0', letters("x", 513)) + noughts(1024)
	for n := range len(s) - 512 {
		wantNone(t, s[:n])
	}
	for n := len(s) - 512; n <= len(s); n++ {
		wantUnpack(t, s[:n], list("a", "hello", "b", letters("x", 513)), api.OK)
	}
	for n := range 513 {
		likeUnpack(t, noughts(n))
		likeUnpack(t, hello()+noughts(n))
		likeUnpack(t, part("d", '5', "")+noughts(n))
		likeUnpack(t, part("d", '5', "x")[:512+n])
		likeUnpack(t, part("g", 'g', "x")[:512+n]+noughts(512))
	}
}

// P18.4: 2 MaxText bytes, and one more, whatever they are.
func TestUnpackAtTheLimit(t *testing.T) {
	for _, s := range []string{noughts(512), noughts(1024), hello() + noughts(512), hello() + hello() + part("d", '5', "x") + noughts(1024)} {
		files, _ := modelUnpack(s)
		for _, filling := range []string{"x", "\x00"} {
			s := s + letters(filling, 524288-len(s))
			wantUnpack(t, s, files, api.OK)
			wantUnpack(t, s+"x", nil, api.ErrBig)
			wantUnpack(t, s+"\x00", nil, api.ErrBig)
			wantUnpack(t, s+s, nil, api.ErrBig)
		}
	}
	data := letters("x", 524288-1024)
	s := part("a", '0', data) + noughts(512)
	wantUnpack(t, s, list("a", data), api.OK)
	wantUnpack(t, s+"x", nil, api.ErrBig)
	wantUnpack(t, letters(part("a", '0', ""), 1023)+noughts(512), slices.Repeat(list("a", ""), 1023), api.OK)
	wantUnpack(t, letters(part("d", '5', ""), 1023)+noughts(512), nil, api.OK)
	wantNone(t, letters(part("a", '0', ""), 1024))
	wantUnpack(t, letters(part("a", '0', ""), 1024)+noughts(512), nil, api.ErrBig)
	wantNone(t, letters("x", 524288))
	wantUnpack(t, letters("x", 524289), nil, api.ErrBig)
	wantUnpack(t, letters("x", 1<<24), nil, api.ErrBig)
}

// P18.4: each byte of an archive changed, gone, or put in.
func TestUnpackOfChangedBytes(t *testing.T) {
	s := part("d", '5', "x") + hello() + extended("path", "b") + part("a", '0', "") + noughts(512)
	for at := range s {
		for _, v := range []byte{0, 1, ' ', '/', '0', '1', '5', '7', 'a', 'g', 'x', 255} {
			likeUnpack(t, s[:at]+byteText(int(v))+s[at+1:])
		}
		likeUnpack(t, s[:at]+s[at+1:])
		likeUnpack(t, s[:at]+"\x00"+s[at:])
		likeUnpack(t, s[:at]+"x"+s[at:])
	}
}

// P18.4: archives of all kinds of parts.
func TestUnpackAsTheModel(t *testing.T) {
	c := chain(188)
	found := map[int]int{}
	for range 20000 {
		s := ""
		for range c.length(8) {
			s += c.part()
		}
		s += noughts(512 * (c.next() % 3))
		if c.next()%8 == 0 {
			s = s[:c.next()%(len(s)+1)]
		}
		likeUnpack(t, s)
		if l, e := modelUnpack(s); e == api.OK {
			found[len(l)]++
		} else {
			found[-1]++
		}
	}
	if found[-1] < 1000 || found[0] < 500 || found[1] < 500 || found[2] < 100 || found[3] < 20 {
		t.Fatal(found)
	}
}

// P18.4: what one call tells is no other one's.
func TestUnpackHandsOutItsOwn(t *testing.T) {
	s := hello() + part("b", '0', "x") + noughts(512)
	l, _ := tar.Unpack(s)
	l[0].Path = "changed"
	_ = append(l[:1], api.Entry{Path: "changed"})
	wantUnpack(t, s, list("a", "hello", "b", "x"), api.OK)
}
