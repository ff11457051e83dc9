package crc_test

// The model: the sums as the chapter's words say them, bit by bit.

// poly is P with its 32 bits spelt, the highest first: 04c11db7.
const poly = "00000100110000010001110110110111"

// come is a register, spelt as 32 digits, behind a bit.
func come(register string, bit byte) string {
	unlike := register[0] != bit
	moved := []byte(register[1:] + "0")
	if !unlike {
		return string(moved)
	}
	for i := range moved {
		if moved[i] == poly[i] {
			moved[i] = '0'
		} else {
			moved[i] = '1'
		}
	}
	return string(moved)
}

// spell spells the n lowest bits of v, the highest first.
func spell(v uint32, n int) string {
	var row []byte
	for k := n - 1; k >= 0; k-- {
		row = append(row, '0'+byte(v>>k&1))
	}
	return string(row)
}

// number reads what spell spells.
func number(row string) uint32 {
	v := uint32(0)
	for i := range len(row) {
		v = v*2 + uint32(row[i]-'0')
	}
	return v
}

// opposite is a row in the opposite order.
func opposite(row string) string {
	var out []byte
	for i := len(row) - 1; i >= 0; i-- {
		out = append(out, row[i])
	}
	return string(out)
}

func modelMore(register uint32, s string) uint32 {
	row := spell(register, 32)
	for i := range len(s) {
		for _, bit := range []byte(spell(uint32(s[i]), 8)) {
			row = come(row, bit)
		}
	}
	return number(row)
}

func modelBzip(s string) uint32 { return 0xffffffff - modelMore(0xffffffff, s) }

func modelIeee(s string) uint32 {
	var turned []byte
	for i := range len(s) {
		turned = append(turned, byte(number(opposite(spell(uint32(s[i]), 8)))))
	}
	return number(opposite(spell(modelBzip(string(turned)), 32)))
}

func modelStream(l []uint32) uint32 {
	whole := uint32(0)
	for _, sum := range l {
		row := spell(whole, 32)
		whole = number(row[1:]+row[:1]) ^ sum
	}
	return whole
}

// chain is a plain rule for numbers that look mixed, the same at each run.
type chain uint64

func (c *chain) next() uint32 {
	*c = *c*6364136223846793005 + 1442695040888963407
	return uint32(*c >> 31)
}

// text is one of n bytes.
func (c *chain) text(n int) string {
	b := make([]byte, n)
	for i := range b {
		b[i] = byte(c.next())
	}
	return string(b)
}

// both is the exclusive or of texts of one length.
func both(texts ...string) string {
	out := []byte(texts[0])
	for _, s := range texts[1:] {
		for i := range out {
			out[i] ^= s[i]
		}
	}
	return string(out)
}
