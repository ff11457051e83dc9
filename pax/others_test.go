package pax_test

import (
	"archive/tar"
	"bytes"
	"maps"
	"slices"
	"strings"
	"testing"

	"kist/api"
	"kist/pax"
	"kist/ustar"
)

// P17.1, P17.2: what other programs wrote is read, and written likewise.
func TestRecordsOfOthers(t *testing.T) {
	x, y := letters("x", 120), letters("y", 110)
	v := func(n int) string { return letters("v", n) }
	for _, c := range []struct {
		records string
		l       []api.Pair
	}{
		// GNU tar
		{"17 comment=a=b\nc\n" + "17 KIST.gr\u00fcn=\u00e4\n" + "9 ab=xyz\n",
			pairs("comment", "a=b\nc", "KIST.gr\u00fcn", "\u00e4", "ab", "xyz")},
		{"14 mtime=-1.5\n" + "14 atime=-1.5\n" + "30 ctime=1795179641.215551132\n" + "17 KIST.gr\u00fcn=\u00e4\n" + "9 ab=xyz\n",
			pairs("mtime", "-1.5", "atime", "-1.5", "ctime", "1795179641.215551132", "KIST.gr\u00fcn", "\u00e4", "ab", "xyz")},
		{"134 linkpath=" + x + "\n" + "30 mtime=1795179641.215551132\n",
			pairs("linkpath", x, "mtime", "1795179641.215551132")},
		{"132 path=./" + x + "\n" + "20 atime=1234567890\n" + "30 ctime=1795179641.211551132\n" + "17 KIST.gr\u00fcn=\u00e4\n" + "9 ab=xyz\n",
			pairs("path", "./"+x, "atime", "1234567890", "ctime", "1795179641.211551132", "KIST.gr\u00fcn", "\u00e4", "ab", "xyz")},
		{"130 path=" + x + "\n" + "11 ab=vvvv\n",
			pairs("path", x, "ab", "vvvv")},
		// bsdtar
		{"30 ctime=1795179641.208471731\n" + "30 atime=1795179641.219551132\n" + "30 mtime=1234567890.123456789\n",
			pairs("ctime", "1795179641.208471731", "atime", "1795179641.219551132", "mtime", "1234567890.123456789")},
		// Python's tarfile
		{"23 comment=all = of\nit\n" + "9 ab=xyz\n" + "11 abc=xyz\n",
			pairs("comment", "all = of\nit", "ab", "xyz", "abc", "xyz")},
		{"11 KIST.a=\n" + "126 path=gr\u00fcn/" + y + "\n" + "15 uname=k\u00efst\n" + "15 uid=4194304\n" + "22 mtime=1234567890.5\n",
			pairs("KIST.a", "", "path", "gr\u00fcn/"+y, "uname", "k\u00efst", "uid", "4194304", "mtime", "1234567890.5")},
		{"99 ab=" + v(92) + "\n" + "101 abc=" + v(92) + "\n" + "1001 abcd=" + v(990) + "\n" + "1002 abcdef=" + v(989) + "\n",
			pairs("ab", v(92), "abc", v(92), "abcd", v(990), "abcdef", v(989))},
	} {
		wantDecode(t, c.records, c.l, api.OK)
		wantEncode(t, c.l, c.records, api.OK)
	}
}

// plainPairs are pairs with keys that Go's own package takes, rising.
func (c *chain) plainPairs(n int) []api.Pair {
	m := map[string]string{}
	for range n {
		p := c.pair(120)
		m["KIST."+strings.ReplaceAll(p.Key, "\x00", "-")] = p.Value
	}
	var l []api.Pair
	for _, key := range slices.Sorted(maps.Keys(m)) {
		l = append(l, api.Pair{Key: key, Value: m[key]})
	}
	return l
}

// asMap are pairs as Go's own package has them.
func asMap(l []api.Pair) map[string]string {
	m := map[string]string{}
	for _, p := range l {
		m[p.Key] = p.Value
	}
	return m
}

// writtenByGo are the records that Go's own writer makes, in the order of their keys.
func writtenByGo(t *testing.T, l []api.Pair) string {
	t.Helper()
	var b bytes.Buffer
	if err := tar.NewWriter(&b).WriteHeader(&tar.Header{Name: "a", Format: tar.FormatPAX, PAXRecords: asMap(l)}); err != nil {
		t.Fatal(short(l), err)
	}
	h, e := ustar.Decode(b.String()[:512])
	if e != api.OK || h.Kind != 'x' {
		t.Fatal(h, int(e))
	}
	return b.String()[512 : 512+h.Size]
}

// P17.1, P17.2: records that Go's own writer makes are made, and read.
func TestRecordsOfGo(t *testing.T) {
	c := chain(176)
	for range 1000 {
		l := c.plainPairs(1 + c.length(8))
		s := writtenByGo(t, l)
		wantEncode(t, l, s, api.OK)
		wantDecode(t, s, l, api.OK)
	}
	for n := range 1100 {
		l := pairs("k", letters("v", n))
		wantEncode(t, l, writtenByGo(t, l), api.OK)
	}
}

// readByGo are the pairs that Go's own reader reads in records.
func readByGo(t *testing.T, s string) map[string]string {
	t.Helper()
	extended, _ := ustar.Encode(api.Head{Path: "pax", Kind: 'x', Size: len(s)})
	file, _ := ustar.Encode(api.Head{Path: "a", Kind: '0'})
	filling := letters("\x00", (512-len(s)%512)%512)
	h, err := tar.NewReader(strings.NewReader(extended + s + filling + file)).Next()
	if err != nil {
		t.Fatalf("%.300q: %v", s, err)
	}
	return h.PAXRecords
}

// P17.1, P17.3: Go's own reader reads what Encode makes, and of each key the last pair.
func TestRecordsReadByGo(t *testing.T) {
	c := chain(177)
	for range 1000 {
		l := append(c.plainPairs(1+c.length(8)), c.plainPairs(c.length(8))...)
		for range c.length(4) {
			l = append(l, api.Pair{Key: l[c.next()%len(l)].Key, Value: c.text(c.length(9))})
		}
		s, e := pax.Encode(l)
		if e != api.OK {
			t.Fatal(short(l), int(e))
		}
		m := readByGo(t, s)
		if !maps.Equal(m, asMap(l)) {
			t.Fatalf("%s: %q", short(l), m)
		}
		for key, value := range m {
			wantLast(t, l, key, value, true)
		}
	}
}
