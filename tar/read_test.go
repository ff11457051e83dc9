package tar_test

import (
	"math"
	"strconv"
	"strings"
	"testing"

	"kist/api"
	"kist/ustar"
)

// P18.2: each kind of header that may stand first, and second.
func TestReadOfKinds(t *testing.T) {
	for v := range 256 {
		kind := byte(v)
		s := header("a", "", kind, 5) + "hello" + padding(5)
		if kind == '0' || kind == 0 {
			wantFile(t, s, "a", "hello")
			wantFile(t, extended()+s, "a", "hello")
			wantFile(t, extended("path", "b")+s, "b", "hello")
		} else {
			wantNoFile(t, s)
			wantNoFile(t, s+part("b", '0', "other"))
			wantNoFile(t, extended()+s)
			wantNoFile(t, extended("path", "b")+s)
			wantNoFile(t, extended("path", "b")+s+part("b", '0', "other"))
		}
	}
}

// P18.2: what stands ahead of a file's header is not passed over.
func TestReadPassesNothingOver(t *testing.T) {
	file := part("a", '0', "hello")
	for _, ahead := range []string{
		noughts(512), noughts(1), "x", file[1:512], letters(" ", 512), letters("x", 512),
		part("d", '5', ""), part("g", 'g', ""), part("g", 'g', records("path", "b")), part("l", '2', ""), part("L", 'L', "a"),
		extended("path", "b") + extended("path", "c"), extended() + extended(), extended() + part("d", '5', ""), extended() + part("g", 'g', ""), extended() + noughts(512),
		extended() + "x", part("g", 'g', "") + extended(),
	} {
		wantNoFile(t, ahead+file)
		wantNoFile(t, extended("size", "5")+ahead+file)
	}
}

// P18.2: texts that end too soon, at each byte.
func TestReadOfTextsCutOff(t *testing.T) {
	q := letters("q", 110)
	for _, s := range []string{
		part("a", '0', ""), part("a", '0', "hello"), part("a", '0', letters("x", 512)), part("a", '0', letters("x", 513)),
		extended("path", q) + part("a", '0', "hello"), extended("path", q) + part("a", '0', ""), extended() + part("a", '0', "hello"),
		extended("path", letters("q/", 700)+"..") + part("a", '0', ""), extended("size", "5") + header("a", "", '0', 0) + "hello" + padding(5),
	} {
		for n := range s {
			wantRead(t, s[:n], "", "", 0, api.ErrTar)
		}
		likeRead(t, s)
	}
}

// P18.2: what data are filled up with may be anything, but is there.
func TestReadOfFillings(t *testing.T) {
	c := chain(182)
	for n := 1; n < 1100; n++ {
		filling := c.bytes(len(padding(n)))
		s := header("a", "", '0', n) + letters("x", n) + filling
		wantRead(t, s, "a", letters("x", n), len(s), api.OK)
		if filling != "" {
			wantRead(t, s[:len(s)-1], "", "", 0, api.ErrTar)
			wantRead(t, s[:512+n], "", "", 0, api.ErrTar)
		}
	}
	record := records("path", "q")
	for _, filling := range []string{padding(9), letters("x", 503), strings.Repeat(record, 56)[:503]} {
		wantFile(t, header("pax", "", 'x', 9)+record+filling+part("a", '0', ""), "q", "")
		if filling[502] != 0 { // else no byte that is cut off is missed: a header can't begin with 0
			wantNoFile(t, header("pax", "", 'x', 9)+record+filling[1:]+part("a", '0', ""))
		}
	}
}

// P18.2: sizes that a header says, up to the greatest that there is room for.
func TestReadOfSizes(t *testing.T) {
	for _, n := range []int{1, 511, 512, 513, 1 << 20, 1<<33 - 513, 1<<33 - 512, 1<<33 - 1} {
		wantRead(t, header("a", "", '0', n), "", "", 0, api.ErrTar)
		wantRead(t, header("a", "", '0', n)+letters("x", min(n, 1<<20)-1), "", "", 0, api.ErrTar)
		wantRead(t, header("pax", "", 'x', n)+part("a", '0', ""), "", "", 0, api.ErrTar)
	}
	h := header("a", "", '0', 1<<33-1)
	h = summed(h[:135] + "7" + h[136:]) // twelve digits, no byte 0
	if head, e := ustar.Decode(h); head.Size != 1<<36-1 || e != api.OK {
		t.Fatal(head.Size, int(e))
	}
	wantRead(t, h+hello(), "", "", 0, api.ErrTar)
}

// P18.2: Read asks no limit of a file: more bytes than a file that is made, or an archive, may have.
func TestReadOfLongFiles(t *testing.T) {
	c := chain(183)
	for _, n := range []int{262144, 262145, 524288, 524289, 1 << 20} {
		data := c.bytes(n)
		s := part("a", '0', data)
		wantRead(t, s, "a", data, len(s), api.OK)
		wantRead(t, s+s, "a", data, len(s), api.OK)
		wantRead(t, s[:len(s)-1], "", "", 0, api.ErrTar)
	}
	wantRead(t, hello()+letters("x", 1<<20), "a", "hello", 1024, api.OK)
}

// P18.2: records as pax reads them, of at most MaxText bytes.
func TestReadOfRecords(t *testing.T) {
	file := part("a", '0', "hello")
	for _, s := range []string{"x", "9 path=b", "8 path=b\n", "10 path=b\n", "09 path=b\n", "9 path=b\n\n", "9 path=b\n\x00", "\x009 path=b\n", "3 =\n", " ", noughts(9), "9 path=b\n9 path=c"} {
		wantNoFile(t, part("pax", 'x', s)+file)
	}
	for v := range 256 {
		if s := part("pax", 'x', "9 path="+byteText(v)+"\n") + file; modelMay(byteText(v)) {
			wantFile(t, s, byteText(v), "hello")
		} else {
			wantNoFile(t, s)
		}
	}
	wantFile(t, part("pax", 'x', "262144 comment="+letters("v", 262128)+"\n")+file, "a", "hello")
	wantNoFile(t, part("pax", 'x', "262145 comment="+letters("v", 262129)+"\n")+file)
	wantNoFile(t, part("pax", 'x', "262144 comment="+letters("v", 262128)+"\n"+"5 k=\n")+file)
}

// P18.2: the last pair path goes ahead of the header's, whatever either says.
func TestReadOfPathsInPairs(t *testing.T) {
	file := part("a", '0', "hello")
	wrong := part("a/../b", '0', "hello")
	for _, c := range []struct {
		pairs []string
		path  string // of the file, where the header's path may be
		wrong string // and where it may not
	}{
		{nil, "a", ""},
		{[]string{"path", "b"}, "b", "b"},
		{[]string{"path", "b", "path", "c"}, "c", "c"},
		{[]string{"path", "..", "path", "c"}, "c", "c"},
		{[]string{"path", "c", "path", ".."}, "", ""},
		{[]string{"path", ""}, "", ""},
		{[]string{"path", "c", "path", ""}, "", ""},
		{[]string{"path", "", "path", "c"}, "c", "c"},
		{[]string{"path", "//c/./d/"}, "c/d", "c/d"},
		{[]string{"path", letters("c", 120)}, letters("c", 120), letters("c", 120)},
		{[]string{"path", letters("c", 121)}, "", ""},
		{[]string{"path", letters("./", 9000) + "c"}, "c", "c"},
		{[]string{"path", "c", "size", "5", "mtime", "1.5"}, "c", "c"},
		{[]string{"size", "5", "comment", "path", "path", "c", "linkpath", "d"}, "c", "c"},
		{[]string{"Path", "b", "PATH", "b", "path ", "b", " path", "b", "paths", "b", "pat", "b", "linkpath", "b", "path\x00", "b", "comment", "9 path=b\n"}, "a", ""},
	} {
		for file, path := range map[string]string{file: c.path, wrong: c.wrong} {
			if s := extended(c.pairs...) + file; path == "" {
				wantNoFile(t, s)
			} else {
				wantFile(t, s, path, "hello")
			}
		}
	}
}

// P18.2: the last pair size goes ahead of the header's, whatever either says.
func TestReadOfSizesInPairs(t *testing.T) {
	for _, said := range []int{0, 1, 5, 512, 513, 1<<33 - 1} {
		for n := range 1030 {
			data := letters("x", n)
			s := extended("size", strconv.Itoa(n)) + header("a", "", '0', said) + data + padding(n)
			wantRead(t, s, "a", data, len(s), api.OK)
		}
	}
	behind := header("a", "", '0', 5) + "hello" + padding(5)
	for _, size := range []string{"", " ", "-0", "-1", "-5", "+5", "05", "005", " 5", "5 ", "5\x00", "5.0", "5e0", "0x5", "a", "5\n", "\u0665", "9007199254740993", "9223372036854775807", "9223372036854775808", "18446744073709551616", "18446744073709551621", letters("9", 400), "0" + letters("0", 400)} {
		wantNoFile(t, extended("size", size)+behind)
		wantNoFile(t, extended("size", "5", "size", size)+behind)
		wantFile(t, extended("size", size, "size", "5")+behind, "a", "hello")
		wantFile(t, extended("Size", size, "size ", size, "siz", size, "GNU.sparse.size", size)+behind, "a", "hello")
	}
	for _, size := range []int{513, 1537, 1 << 20, math.MaxInt32, 1 << 32, 1<<53 - 512, 1<<53 - 1, 1 << 53} {
		wantRead(t, extended("size", strconv.Itoa(size))+behind, "", "", 0, api.ErrTar)
	}
	wantFile(t, extended("size", "0")+behind[:512], "a", "")
	wantFile(t, extended("size", "512")+behind, "a", behind[512:])
	wantFile(t, extended("size", "4", "path", "b")+behind, "b", "hell")
}

// P18.2: paths that headers say, in their one form.
func TestReadOfPathsInHeaders(t *testing.T) {
	for name, path := range map[string]string{
		"a": "a", "a/": "a", "/a": "a", "./a": "a", "a/b": "a/b", "//a/.//b/.": "a/b", "...": "...", "a/...": "a/...", " ": " ", "~": "~",
		letters("a", 100): letters("a", 100), letters("./", 49) + "a": "a",
		"/": "", ".": "", "..": "", "./": "", "a/../b": "", "../a": "", "a/..": "", "\x1f": "", "\x7f": "", "a\n": "", "gr\u00fcn": "",
	} {
		if s := part(name, '0', "hello"); path == "" {
			wantNoFile(t, s)
		} else {
			wantFile(t, s, path, "hello")
		}
	}
	for _, c := range []struct{ name, prefix, path string }{
		{"a", "b", "b/a"}, {"a", ".", "a"}, {"a", "/", "a"}, {"a", "/b/", "b/a"}, {"", "b", "b"}, {"a", "..", ""}, {"a", letters("./", 77) + "b", "b/a"},
		{letters("a", 100), letters("b", 19), letters("b", 19) + "/" + letters("a", 100)}, {letters("a", 100), letters("b", 20), ""}, {letters("a", 100), letters("b", 155), ""},
		{letters("a", 100), letters("/", 155), letters("a", 100)}, {letters("a", 100), letters("/", 136) + letters("b", 19), letters("b", 19) + "/" + letters("a", 100)},
	} {
		if s := header(c.name, c.prefix, '0', 5) + "hello" + padding(5); c.path == "" {
			wantNoFile(t, s)
		} else {
			wantFile(t, s, c.path, "hello")
		}
	}
}

// P18.2: each byte of a file's sectors changed.
func TestReadOfChangedBytes(t *testing.T) {
	for _, s := range []string{hello(), extended("path", "b", "size", "5") + part("a", '0', "hello")} {
		for at := range s {
			for _, v := range []byte{0, 1, 2, 9, ' ', '/', '0', '1', '5', '7', '8', '=', 'a', 'g', 'x', '\n', 128, 255} {
				likeRead(t, s[:at]+byteText(int(v))+s[at+1:])
			}
		}
	}
}

// summed is a sector with its sum in its field.
func summed(s string) string {
	n := 0
	for at, v := range []byte(s) {
		if at >= 148 && at < 156 {
			v = ' '
		}
		n += int(v)
	}
	digits := strconv.FormatInt(int64(n), 8)
	return s[:148] + letters("0", 6-len(digits)) + digits + "\x00 " + s[156:]
}

// P18.2: each byte of headers changed, their sums with them.
func TestReadOfChangedHeaders(t *testing.T) {
	ahead, second := extended("path", "b", "mtime", "1.500"), part("a", '0', "hello")
	first, pairs := ahead[:512], ahead[512:]
	for at := range 512 {
		for v := range 256 {
			likeRead(t, summed(second[:at]+byteText(v)+second[at+1:512])+second[512:])
			likeRead(t, summed(first[:at]+byteText(v)+first[at+1:])+pairs+second)
			if v%16 == at%16 {
				likeRead(t, first+pairs+summed(second[:at]+byteText(v)+second[at+1:512])+second[512:])
			}
		}
	}
}

// P18.2: texts of all kinds of parts.
func TestReadAsTheModel(t *testing.T) {
	c := chain(184)
	var read, not int
	for range 30000 {
		s := c.part() + c.part()
		if c.next()%4 == 0 {
			s = s[:c.next()%len(s)]
		}
		likeRead(t, s)
		if _, _, e := modelRead(s); e == api.OK {
			read++
		} else {
			not++
		}
	}
	if read < 5000 || not < 5000 {
		t.Fatal(read, not)
	}
}

// data are some, and what they are filled up with.
func (c *chain) data() (string, int) {
	n := c.length(1600)
	s := c.bytes(n)
	if c.next()%8 == 0 {
		return s + c.bytes(len(padding(n))), n
	}
	return s + padding(n), n
}

// pairs are some ahead of a file, and whether the last one size says so many bytes.
func (c *chain) pairs(size int) (string, bool) {
	var l []string
	says := false
	for range c.length(4) {
		switch c.next() % 5 {
		case 0:
			l = append(l, "path", c.oneOf("b", "/b", "", "..", c.path(), letters("b", 121), "a/./b"))
		case 1:
			l = append(l, "size", c.oneOf("", "0", "05", "5", "512", "4096", "-1"))
			says = false
		case 2, 3:
			l = append(l, "size", strconv.Itoa(size))
			says = true
		default:
			l = append(l, c.oneOf("comment", "mtime", "paths", "sizes"), c.bytes(c.length(700)))
		}
	}
	return extended(l...), says
}

// part is a header with data, mostly of a file, perhaps with pairs ahead.
func (c *chain) part() string {
	data, n := c.data()
	path := c.oneOf("a", "./a", "b//c/", "d/e", "..", letters("l", 100), "a")
	switch c.next() % 12 {
	case 0:
		return header(path, "", '5', n) + data
	case 1:
		return header(path, "", 'g', n) + data
	case 2:
		return header(path, "", c.oneOf("1", "2", "L", "x", "7")[0], n) + data
	case 3:
		return c.oneOf(noughts(512), noughts(511), letters("x", 512), extended(), data, c.bytes(512))
	case 4, 5, 6, 7:
		ahead, says := c.pairs(n)
		said := n
		if says {
			said = c.length(2000)
		}
		return ahead + header(path, c.oneOf("", "", "p", "."), '0', said) + data
	default:
		return header(path, c.oneOf("", "", "p", letters("p", 155)), c.oneOf("0", "0", "0", "\x00")[0], n) + data
	}
}
