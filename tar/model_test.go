package tar_test

import (
	"fmt"
	"regexp"
	"slices"
	"strconv"
	"strings"
	"testing"

	"kist/api"
	"kist/pax"
	"kist/tar"
	"kist/ustar"
)

// The model: sectors are spelled field by field, and gone through one by one, each of them a header, data, or an end.

// header is one as Encode of ustar makes it, spelled field by field: of what stands in the fields of the name and of the prefix.
func header(name, prefix string, kind byte, size int) string {
	ahead := name + noughts(100-len(name)) + "0000644\x00" + "0000000\x00" + "0000000\x00" + fmt.Sprintf("%011o\x00", size) + "00000000000\x00"
	behind := byteText(int(kind)) + noughts(100) + "ustar\x00" + "00" + noughts(64) + "0000000\x00" + "0000000\x00" + prefix + noughts(155-len(prefix)) + noughts(12)
	sum := 8 * 32
	for _, v := range []byte(ahead + behind) {
		sum += int(v)
	}
	return ahead + fmt.Sprintf("%06o\x00 ", sum) + behind
}

// padding is what n bytes are filled up with.
func padding(n int) string {
	for k := 0; ; k++ {
		if (n+k)%512 == 0 {
			return noughts(k)
		}
	}
}

// part is a header with its data, filled up.
func part(path string, kind byte, data string) string {
	return header(path, "", kind, len(data)) + data + padding(len(data))
}

// extended is a header of pairs with these.
func extended(l ...string) string { return part("pax", 'x', records(l...)) }

// records are those of keys and values.
func records(l ...string) string {
	var list []api.Pair
	for ; len(l) > 0; l = l[2:] {
		list = append(list, api.Pair{Key: l[0], Value: l[1]})
	}
	s, e := pax.Encode(list)
	if e != api.OK {
		panic(e)
	}
	return s
}

var partForm = regexp.MustCompile(`^(|\.|\.\.)$`)

// modelMay tells whether a path may be.
func modelMay(p string) bool {
	for _, part := range strings.Split(p, "/") {
		if partForm.MatchString(part) {
			return false
		}
	}
	return len(p) <= 120 && strings.Trim(p, " !\"#$%&'()*+,-./0123456789:;<=>?@ABCDEFGHIJKLMNOPQRSTUVWXYZ[\\]^_`abcdefghijklmnopqrstuvwxyz{|}~") == "" && regexp.MustCompile(`^[ -~]*$`).MatchString(p)
}

// modelClean is a path's one form.
func modelClean(p string) (string, bool) {
	l := slices.DeleteFunc(strings.Split(p, "/"), func(part string) bool { return part == "" || part == "." })
	clean := strings.Join(l, "/")
	return clean, modelMay(clean)
}

func modelEntry(path, data string) (string, api.Errno) {
	if !modelMay(path) {
		return "", api.ErrPath
	}
	if len(data) > 262144 {
		return "", api.ErrBig
	}
	behind := data + padding(len(data))
	if len(path) <= 100 {
		return header(path, "", '0', len(data)) + behind, api.OK
	}
	for i := 1; i < len(path)-1; i++ { // no path that may be has more bytes ahead than a prefix
		if path[i] == '/' && len(path)-i-1 <= 100 {
			return header(path[i+1:], path[:i], '0', len(data)) + behind, api.OK
		}
	}
	record := strconv.Itoa(len(path)+10) + " path=" + path + "\n" // 111 to 130 bytes
	return part("pax", 'x', record) + header(path[:100], "", '0', len(data)) + behind, api.OK
}

func modelPack(l []api.Entry) (string, api.Errno) {
	n := 1024
	for _, file := range l {
		s, e := modelEntry(file.Path, file.Data)
		if e != api.OK {
			return "", e
		}
		n += len(s)
	}
	if n > 524288 {
		return "", api.ErrBig
	}
	s := ""
	for _, file := range l {
		one, _ := modelEntry(file.Path, file.Data)
		s += one
	}
	return s + noughts(1024), api.OK
}

// walk goes from sector to sector, up to the first file's last one if there is to be only one, else up to one of noughts. It tells the files and how many sectors it went.
func walk(s string, one bool) ([]api.Entry, int, bool) {
	sectors := slices.Collect(slices.Chunk([]byte(s), 512))
	var l []api.Entry
	var said map[string]string // not nil: pairs, behind which their file must stand
	for at := 0; at < len(sectors) && len(sectors[at]) == 512; {
		if string(sectors[at]) == noughts(512) {
			return l, at + 1, !one && said == nil
		}
		h, e := ustar.Decode(string(sectors[at]))
		at++
		size, err := uint64(h.Size), error(nil)
		if v, is := said["size"]; is {
			size, err = strconv.ParseUint(v, 10, 54)
			if strconv.FormatUint(size, 10) != v || size > 9007199254740992 {
				return nil, 0, false
			}
		}
		if e != api.OK || err != nil || said != nil && h.Kind != '0' || size > uint64(len(s)) {
			return nil, 0, false
		}
		var data []byte
		for ; len(data) < int(size); at++ {
			if at >= len(sectors) || len(sectors[at]) < 512 {
				return nil, 0, false
			}
			data = append(data, sectors[at]...)
		}
		data = data[:size]
		switch h.Kind {
		case '5', 'g':
			if one {
				return nil, 0, false
			}
		case 'x':
			pairs, e := pax.Decode(string(data))
			if e != api.OK {
				return nil, 0, false
			}
			said = map[string]string{}
			for _, p := range pairs {
				said[p.Key] = p.Value
			}
		case '0':
			path, is := said["path"]
			if !is {
				path = h.Path
			}
			path, may := modelClean(path)
			if !may {
				return nil, 0, false
			}
			l = append(l, api.Entry{Path: path, Data: string(data)})
			if one {
				return l, at, true
			}
			said = nil
		default:
			return nil, 0, false
		}
	}
	return nil, 0, false
}

func modelRead(s string) (api.Entry, int, api.Errno) {
	l, n, ok := walk(s, true)
	if !ok {
		return api.Entry{}, 0, api.ErrTar
	}
	return l[0], 512 * n, api.OK
}

func modelUnpack(s string) ([]api.Entry, api.Errno) {
	if len(s) > 524288 {
		return nil, api.ErrBig
	}
	l, _, ok := walk(s, false)
	if !ok {
		return nil, api.ErrTar
	}
	return l, api.OK
}

// modelCmp tells the order of two paths by all their parts.
func modelCmp(a, b string) int { return slices.Compare(strings.Split(a, "/"), strings.Split(b, "/")) }

// modelLast puts each file in its place among those that came ahead of it.
func modelLast(l []api.Entry) []api.Entry {
	var last []api.Entry
	for _, file := range l {
		at := 0
		for at < len(last) && modelCmp(last[at].Path, file.Path) < 0 {
			at++
		}
		if at < len(last) && last[at].Path == file.Path {
			last[at] = file
		} else {
			last = slices.Insert(last, at, file)
		}
	}
	return last
}

// short tells of a text no more than can be read.
func short(s string) string {
	return fmt.Sprintf("%d bytes %.100q", len(s), strings.ReplaceAll(s[:min(len(s), 5000)], noughts(8), "\u2026"))
}

// shortList tells of files no more than can be read.
func shortList(l []api.Entry) string {
	s := strconv.Itoa(len(l)) + " files"
	for _, file := range l[:min(len(l), 10)] {
		s += " " + short(file.Path) + ": " + short(file.Data) + ";"
	}
	return s
}

// wantEntry holds what Entry answers against what it should.
func wantEntry(t *testing.T, path, data, want string, wantE api.Errno) {
	t.Helper()
	if s, e := tar.Entry(api.Entry{Path: path, Data: data}); s != want || e != wantE {
		t.Fatalf("Entry of %q, %s = %s, %d; not %s, %d", path, short(data), short(s), int(e), short(want), int(wantE))
	}
}

// wantRead holds what Read answers against what it should.
func wantRead(t *testing.T, s, path, data string, n int, wantE api.Errno) {
	t.Helper()
	if file, m, e := tar.Read(s); file.Path != path || file.Data != data || m != n || e != wantE {
		t.Fatalf("Read of %s = %s, %d, %d; not %q, %s, %d, %d", short(s), shortList([]api.Entry{file}), m, int(e), path, short(data), n, int(wantE))
	}
}

// wantFile holds that a text is a file's sectors, and that what stands behind these does not matter.
func wantFile(t *testing.T, s, path, data string) {
	t.Helper()
	for _, behind := range []string{"", "\x00", noughts(1024), s, "else"} {
		wantRead(t, s+behind, path, data, len(s), api.OK)
	}
}

// wantNoFile holds that a text begins with no file's sectors, and that all that stands behind it does not mend that.
func wantNoFile(t *testing.T, s string) {
	t.Helper()
	wantRead(t, s, "", "", 0, api.ErrTar)
	wantRead(t, s+noughts(1024), "", "", 0, api.ErrTar)
	wantRead(t, s+part("else", '0', "else"), "", "", 0, api.ErrTar)
}

// wantPack holds what Pack answers against what it should.
func wantPack(t *testing.T, l []api.Entry, want string, wantE api.Errno) {
	t.Helper()
	kept := slices.Clone(l)
	if s, e := tar.Pack(l); s != want || e != wantE {
		t.Fatalf("Pack of %s = %s, %d; not %s, %d", shortList(l), short(s), int(e), short(want), int(wantE))
	}
	if !slices.Equal(l, kept) {
		t.Fatalf("Pack changed %s to %s", shortList(kept), shortList(l))
	}
}

// wantUnpack holds what Unpack answers against what it should.
func wantUnpack(t *testing.T, s string, want []api.Entry, wantE api.Errno) {
	t.Helper()
	if l, e := tar.Unpack(s); !slices.Equal(l, want) || e != wantE {
		t.Fatalf("Unpack of %s = %s, %d; not %s, %d", short(s), shortList(l), int(e), shortList(want), int(wantE))
	}
}

// wantNone holds that a text is no archive.
func wantNone(t *testing.T, s string) {
	t.Helper()
	wantUnpack(t, s, nil, api.ErrTar)
}

// wantLast holds what Last answers against what it should.
func wantLast(t *testing.T, l, want []api.Entry) {
	t.Helper()
	kept := slices.Clone(l)
	if last := tar.Last(l); !slices.Equal(last, want) {
		t.Fatalf("Last of %s = %s; not %s", shortList(l), shortList(last), shortList(want))
	}
	if !slices.Equal(l, kept) {
		t.Fatalf("Last changed %s to %s", shortList(kept), shortList(l))
	}
}

// likeEntry holds Entry against the model.
func likeEntry(t *testing.T, path, data string) {
	t.Helper()
	s, e := modelEntry(path, data)
	wantEntry(t, path, data, s, e)
}

// likeRead holds Read against the model.
func likeRead(t *testing.T, s string) {
	t.Helper()
	file, n, e := modelRead(s)
	wantRead(t, s, file.Path, file.Data, n, e)
}

// likePack holds Pack against the model.
func likePack(t *testing.T, l []api.Entry) {
	t.Helper()
	s, e := modelPack(l)
	wantPack(t, l, s, e)
}

// likeUnpack holds Unpack against the model.
func likeUnpack(t *testing.T, s string) {
	t.Helper()
	l, e := modelUnpack(s)
	wantUnpack(t, s, l, e)
}

// list are files of paths and data, one behind the other.
func list(l ...string) []api.Entry {
	var files []api.Entry
	for ; len(l) > 0; l = l[2:] {
		files = append(files, api.Entry{Path: l[0], Data: l[1]})
	}
	return files
}

// letters are n of one letter.
func letters(letter string, n int) string { return strings.Repeat(letter, n) }

// noughts are n bytes 0.
func noughts(n int) string { return strings.Repeat("\x00", n) }

// byteText is a text of one byte.
func byteText(v int) string { return string([]byte{byte(v)}) }

// chain is a plain rule for numbers that look mixed, the same at each run.
type chain uint64

func (c *chain) next() int {
	*c = *c*6364136223846793005 + 1442695040888963407
	return int(*c >> 33)
}

// oneOf is one of some.
func (c *chain) oneOf(l ...string) string { return l[c.next()%len(l)] }

// bytes are n mixed ones.
func (c *chain) bytes(n int) string {
	b := make([]byte, n)
	for i := range b {
		b[i] = byte(c.next())
	}
	return string(b)
}

// length is a number below most, mostly a small one.
func (c *chain) length(most int) int { return c.next() % (1 + c.next()%most) }

// path is one that may be, of up to 120 bytes.
func (c *chain) path() string {
	b := []byte(letters(c.oneOf("a", "b", "."), 1+c.length(120)))
	for range c.length(6) {
		b[c.next()%len(b)] = c.oneOf("/", ".", "c", " ", "~")[0]
	}
	if modelMay(string(b)) {
		return string(b)
	}
	return c.path()
}

// file is one that may be.
func (c *chain) file() api.Entry {
	return api.Entry{Path: c.path(), Data: c.bytes(c.length(1600))}
}

// files are n that may be.
func (c *chain) files(n int) []api.Entry {
	l := make([]api.Entry, n)
	for i := range l {
		l[i] = c.file()
	}
	return l
}
