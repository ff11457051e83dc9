// Package bits is layer 1: rows of bits, the highest bit of each byte first. See shared/doc/01-bits.md.
package bits

import "kist/api"

// wide is how many bits a number has at most.
const wide = 64

// Writer is a row of bits that grows.
type Writer struct {
	made bool // tells it from a plain Writer{}, which answers as nil does
	text []byte
	n    int
}

// NewWriter makes one without bits.
func NewWriter() *Writer { return &Writer{made: true} }

func (w *Writer) right() bool { return w != nil && w.made }

// Put puts the n lowest bits of v behind what is there, the highest of them first.
func (w *Writer) Put(v uint64, n int) api.Errno {
	if !w.right() {
		return api.ErrNil
	}
	if n < 0 || n > wide || v>>n != 0 {
		return api.ErrArg
	}
	for n > 0 {
		room := 8 - w.n%8
		if room == 8 {
			w.text = append(w.text, 0)
		}
		k := min(n, room)
		// Nothing stands above the first k bits, and above later ones only what falls off, since a new byte has room for 8.
		w.text[len(w.text)-1] |= byte(v>>(n-k)) << (room - k)
		w.n += k
		n -= k
	}
	return api.OK
}

// Len tells how many bits there are.
func (w *Writer) Len() int {
	if !w.right() {
		return 0
	}
	return w.n
}

// Text tells all bits, the last byte filled up with 0 bits.
func (w *Writer) Text() string {
	if !w.right() {
		return ""
	}
	return string(w.text)
}

// Reader stands at a bit of a text.
type Reader struct {
	made bool // tells it from a plain Reader{}, which answers as nil does
	text string
	at   int
}

// NewReader makes one that stands at bit number at of s, or nil where s has no such place.
func NewReader(s string, at int) *Reader {
	if at < 0 || at > 8*len(s) {
		return nil
	}
	return &Reader{made: true, text: s, at: at}
}

func (r *Reader) right() bool { return r != nil && r.made }

// ahead makes a closure that tells the bits from where r stands on, one a call, and false when there is none any more. The reader stays where it is: only a call that is answered OK may move it.
func (r *Reader) ahead() func() (uint64, bool) {
	text, at := r.text, r.at
	return func() (uint64, bool) {
		if at == 8*len(text) {
			return 0, false
		}
		bit := text[at/8] >> (7 - at%8) & 1
		at++
		return uint64(bit), true
	}
}

// Take takes the next n bits as a number, the first one the highest.
func (r *Reader) Take(n int) (uint64, api.Errno) {
	if !r.right() {
		return 0, api.ErrNil
	}
	if n < 0 || n > wide {
		return 0, api.ErrArg
	}
	next := r.ahead()
	v := uint64(0)
	for range n {
		bit, ok := next()
		if !ok {
			return 0, api.ErrShort
		}
		v = v<<1 | bit
	}
	r.at += n
	return v, api.OK
}

// Unary counts the 1 bits ahead of the next 0 bit, of which there may be at most most.
func (r *Reader) Unary(most int) (int, api.Errno) {
	if !r.right() {
		return 0, api.ErrNil
	}
	if most < 0 {
		return 0, api.ErrArg
	}
	next := r.ahead()
	count := 0
	for {
		bit, ok := next()
		if !ok {
			return 0, api.ErrShort
		}
		if bit == 0 {
			r.at += count + 1
			return count, api.OK
		}
		if count == most {
			return 0, api.ErrBig
		}
		count++
	}
}

// At tells where it stands.
func (r *Reader) At() int {
	if !r.right() {
		return 0
	}
	return r.at
}

// Left tells how many bits are left.
func (r *Reader) Left() int {
	if !r.right() {
		return 0
	}
	return 8*len(r.text) - r.at
}

// Slice tells the n bits of s from bit number at on.
func Slice(s string, at, n int) (api.Bits, api.Errno) {
	r := NewReader(s, at)
	if r == nil || n < 0 || n > r.Left() {
		return api.Bits{}, api.ErrArg
	}
	w := NewWriter()
	carry(w, r, n)
	return api.Bits{Text: w.Text(), N: n}, api.OK
}

// Join joins pieces, one behind the other.
func Join(l ...api.Bits) (api.Bits, api.Errno) {
	w := NewWriter()
	for _, b := range l {
		if !mayBe(b) {
			return api.Bits{}, api.ErrArg
		}
		carry(w, NewReader(b.Text, 0), b.N)
	}
	return api.Bits{Text: w.Text(), N: w.Len()}, api.OK
}

// mayBe tells whether b's text has just the bytes that its bits take, filled up with 0 bits.
func mayBe(b api.Bits) bool {
	if b.N < 0 {
		return false
	}
	whole, rest := b.N/8, b.N%8
	if rest == 0 {
		return len(b.Text) == whole
	}
	return len(b.Text) == whole+1 && b.Text[whole]<<rest == 0
}

// carry puts the next n bits of r, which has so many, behind those of w.
func carry(w *Writer, r *Reader, n int) {
	for n > 0 {
		k := min(n, wide)
		v, _ := r.Take(k)
		w.Put(v, k)
		n -= k
	}
}
