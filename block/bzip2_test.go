package block_test

import (
	"compress/bzip2"
	"encoding/base64"
	"io"
	"strings"
	"testing"

	"kist/api"
	"kist/bits"
	"kist/block"
	"kist/crc"
	"kist/rle"
	"kist/rotate"
	"kist/symbols"
)

// A stream: four bytes, its blocks, and its end.
const (
	blockAt   = 32
	endOfAll  = 0x177245385090
	mostAtOne = api.BlockUnit // bytes of an RLE text at level 1
)

// streamOf is a stream of one block.
func streamOf(b api.Bits, sum uint32) string {
	end := bits.NewWriter()
	end.Put(endOfAll, 48)
	end.Put(uint64(crc.Stream(sum)), 32)
	whole, _ := bits.Join(b, api.Bits{Text: end.Text(), N: end.Len()})
	return "BZh9" + whole.Text
}

// P12.1: a stream of a block that was made is one that others read.
func TestOthersReadIt(t *testing.T) {
	l := texts()
	for _, s := range atLimit(t) {
		l = append(l, s)
	}
	for _, s := range l {
		b, e := block.Make(s)
		if e != api.OK {
			t.Fatal(int(e))
		}
		read, err := io.ReadAll(bzip2.NewReader(strings.NewReader(streamOf(b, crc.Bzip(s)))))
		if err != nil || string(read) != s {
			t.Fatalf("%d bytes %.60q: %d bytes, %v", len(s), s, len(read), err)
		}
	}
}

// sample is a stream that bzip2 wrote of a text at level 1, and how many blocks it has.
type sample struct {
	text, packed string
	blocks       int
}

func samples() []sample {
	c := chain(126)
	l := []sample{
		{"a", "QlpoMTFBWSZTWRmTm2sAAAABACAAIAAhGEaC7kinChIDMnNtYA==", 1},
		{"banana", "QlpoMTFBWSZTWe+27AEAAAGBADABIAAwzAx6iF4u5IpwoSHfbdgC", 1},
		{strings.Repeat("a", 1000), "QlpoMTFBWSZTWUncT2MAAAGBAaAAAIAACCAAIKptQZi6g8XckU4UJBJ3E9jA", 1},
		{all(), "QlpoMTFBWSZTWba17pUAAAB/////////////////////////////////////////////sADFUgAAAAAAAAAAAAAAAAAAAAABMAmAAAAAAAAAAAAAAEwABMAEmAAmAAJgAAAAAAAAAAAAAAAAAAAAAAAAAAAAAAAAAAAAAkwAEwABMAAAAAAAAAAAAAAAAAAAAAAAAAAAAAAAAAAAAAPwCAwQFBgcICQoLDA0ODxAREhMUFRYXGBkaGxwdHh8gISIjJCUmJygpKissLS4vMDEyMzQ1Njc4OTo7PD0+P0BBQkNERUZHSElKS0xNTk9QUVJTVFVWV1hZWltcXV5fYGFiY2RhYmNkZWZnaGlqa2xtbm9wcXJzdHV2d3h5ent8fX5/gIGCg4SFhoeIiYqLjI2Oj5CRkpWWl5iZmpucnZ6foKGio6SlpqeoqaqrrK2ur7CxsrO0tba3uLm6u7y9vr/AwcLDxMXGxcbHyMnKy8zNzs/Q0dLT1NXW19jZ2tvc3d7f4OHi4+Tl5ufo6err7O3u7/Dx8vP09fb3+Pn6+/z9F3JFOFCQtrXulQ=", 1},
		{letters(5, 400, 26), "QlpoMTFBWSZTWfWcNxEAAGQBgD////AwARoWiqn+mjIZGgFPShFNlHonhTanqGhiqfiZNNGptSYxCE5zIEvJVr7OoEio6YI136Bx720XjF3AKWcOeEukTURCMwhjDldexaqX0R2qc3ix3m9OFZYnv6eGZFz8GK3bkadzyzRj4hoH92IpJ/dqjj+9LepSYFmI/g/GDPn1X4Oo1q0NdxANDIiyXPMhu5OnmxKy0IKcyXoZTx2F0Op6parw8tPbqnuUix4H6vvnTJyUfABETN/HxlN/+/NSgccmaM2GMRIQzqG6VLi2t1sFA4oWGK4qi9hLfKeLy8Q+vO5SL1sPiPDHYKV9NP2Ge5v2FrTqQnIuuHvFF68ogNSoyXhkONbJMgug+F3JFOFCQ9Zw3EQ=", 1},
		{c.runs(700, 12, "abc"), "QlpoMTFBWSZTWeyxafUAAG7xAH//iggIADgAIACSDKaaaEyaPRMgkaqgNpqAyacfrOFVW2jWxGyjBbVStKIsqpbUAn3HIyee52xo63XOTmOIE2pCaWAFbyrKem6k2E3Xx3zWbZiH9QkhYRgQTREAB91gUiEs+0Vbwm3NWxyjV/F3JFOFCQ7LFp9Q", 1},
		{strings.Repeat("kist keeps files; ", 14000), "QlpoMTFBWSZTWf2UZEoAgi6ZgEAAAAgDLEwAMACwEAMBNVT1BiEAMNyiJcKIl3KIlkoiWiiJelES3KIl9KIlqURLwoiWJREuclES+KIlkoiXUoiWFES0URL8xQVkmU1kGJ2bWAJfhmYBAAAAIAyxMADAAsBADATVUyaYhADDhREuyiJZKIlgoiW5REtSiJcKIl8URLZREvZREsUoiXCiJalESx2URLBREsyiJblES/MUFZJlNZg8eGpQBBZ5mAQAAACAMsTAAwALAQAwE1VNGmBADDZKRcJSL0lIsEpFolIskpFslIvyUi0SkXxKRYiUi2SkWSUi4SkXhKRYJSLRKRdF3JFOFCQedjaIgA==", 3},
	}
	for i := range l {
		packed, _ := base64.StdEncoding.DecodeString(l[i].packed)
		l[i].packed = string(packed)
	}
	return l
}

// P12.2: what bzip2 wrote is read, a block behind the other, up to the stream's end.
func TestTakeOfBzip2(t *testing.T) {
	for _, s := range samples() {
		at, rest := blockAt, s.text
		var sums []uint32
		for range s.blocks {
			text, sum, to, e := block.Take(s.packed, at, mostAtOne)
			if e != api.OK || !strings.HasPrefix(rest, text) || sum != crc.Bzip(text) || to <= at {
				t.Fatalf("%d bytes, the block at %d: %.60q, %x, %d, %d", len(s.text), at, text, sum, to, int(e))
			}
			at, rest, sums = to, rest[len(text):], append(sums, sum)
		}
		r := bits.NewReader(s.packed, at)
		end, _ := r.Take(48)
		whole, _ := r.Take(32)
		if rest != "" || end != endOfAll || uint32(whole) != crc.Stream(sums...) {
			t.Fatalf("%d bytes: %d left, %x, %x", len(s.text), len(rest), end, whole)
		}
		wantTake(t, s.packed, at, mostAtOne, "", 0, 0, api.ErrBlock)
		wantTake(t, s.packed, at+1, mostAtOne, "", 0, 0, api.ErrBlock)
	}
}

// P12.1: up to the symbols in use a block is what bzip2 wrote, where no rotation is the text itself. (Its tables are its own.)
func TestMakeBeginsAsBzip2(t *testing.T) {
	for _, s := range samples() {
		if s.blocks > 1 || rotate.Period(rle.Encode(s.text)) < len(rle.Encode(s.text)) {
			continue
		}
		b, e := block.Make(s.text)
		if e != api.OK {
			t.Fatal(int(e))
		}
		_, n, _ := symbols.Take(b.Text, headBits)
		want, _ := bits.Slice(s.packed, blockAt, n)
		if got, _ := bits.Slice(b.Text, 0, n); n <= headBits || got != want {
			t.Errorf("%d bytes: %x, not %x", len(s.text), got.Text, want.Text)
		}
	}
}
