package block_test

import (
	"fmt"
	"slices"
	"strings"
	"testing"

	"kist/api"
	"kist/block"
	"kist/bwt"
	"kist/crc"
	"kist/rle"
	"kist/symbols"
	"kist/zrun"
)

// P12.2
func TestTakeOfTheExamples(t *testing.T) {
	wantTake(t, "\x00\x00\x00\x00\x00\x00", 0, 1, "", 0, 0, api.ErrBlock)
	wantTake(t, "\x00\x00\x00\x00\x00\x00", 1, 1, "", 0, 0, api.ErrShort) // 47 bits
	b := ofA().bits()
	wantTake(t, b.Text, 0, 1, "a", 0x19939b6b, b.N, api.OK)
	b = ofBanana().bits()
	wantTake(t, b.Text, 0, 6, "banana", 0xefb6ec01, b.N, api.OK)
}

// P12.2: ErrArg goes ahead of all else, whatever stands there.
func TestTakeRefuses(t *testing.T) {
	good := ofBanana().bits().Text
	for _, s := range []string{"", "\x00", "\xff\x00\x00\x00\x00\x00\x00\x00", good, good[:15], good + good} {
		for _, at := range wrongPlaces(len(s)) {
			for _, most := range append(wrongMosts(), 1, 6, api.MaxText) {
				wantTake(t, s, at, most, "", 0, 0, api.ErrArg)
			}
		}
		for _, most := range wrongMosts() {
			for _, at := range []int{0, 1, 8 * len(s)} {
				wantTake(t, s, min(at, 8*len(s)), most, "", 0, 0, api.ErrArg)
			}
		}
		wantTake(t, s, 8*len(s), 1, "", 0, 0, api.ErrShort)
		wantTake(t, s, 8*len(s), api.MaxText, "", 0, 0, api.ErrShort)
	}
	wantText(t, good, 0, api.MaxText, "banana", ofBanana().bits().N)
}

// P12.2: a head that ends too soon, and one that is none, at each bit: bits that are wrong are told ahead of those that are not there, once all that tell it are.
func TestTakeOfHeads(t *testing.T) {
	head := ofBanana().whole()[:headBits]
	for n := range headBits + 1 {
		refuse(t, head[:n], 6, api.ErrShort)
	}
	whole := ofBanana().whole()
	for at := range 48 {
		wrong := flipped(whole, at)
		for n := range headBits + 1 {
			if n < 48 {
				refuse(t, wrong[:n], 6, api.ErrShort)
			} else {
				refuse(t, wrong[:n], 6, api.ErrBlock)
			}
		}
		refuse(t, wrong, 6, api.ErrBlock)
		refuse(t, flipped(wrong, 80), 6, api.ErrBlock)
	}
	wrong := flipped(whole, 80)
	for n := range len(wrong) + 1 {
		if n < 81 {
			refuse(t, wrong[:n], 6, api.ErrShort)
		} else {
			refuse(t, wrong[:n], 6, api.ErrBlock)
		}
	}
	end := "0001 0111 0111 0010 0100 0101 0011 1000 0101 0000 1001 0000" // that of a stream
	refuse(t, end, 6, api.ErrBlock)
}

// P12.2: each end that is too soon.
func TestTakeOfWhatIsCut(t *testing.T) {
	for _, p := range []parts{ofA(), ofBanana(), partsOf("aaaaab"), partsOf(letters(1, 90, 20))} {
		digits := p.whole()
		for n := range digits {
			refuse(t, digits[:n], 100, api.ErrShort)
		}
	}
}

// P12.2: symbols' errors.
func TestTakeOfUsed(t *testing.T) {
	none := strings.Repeat("0", 16)
	for _, behind := range []string{"", "0", "1", ofBanana().plan, none + none} {
		refuse(t, ofBanana().with(func(p *parts) { p.used, p.plan = none, behind }).whole(), 6, api.ErrSymbol)
		refuse(t, ofBanana().with(func(p *parts) { p.used, p.plan = "1000 0000 0000 0001"+none+none, behind }).whole(), 6, api.ErrSymbol)
	}
	head := parts{mark: markDigits, sum: ofA().sum, mixed: "0", row: ofA().row}.whole()
	for _, used := range []string{"", "0", none[1:], "1111", "0000 0010 0000 0000", "0000 0010 0000 0000 0100", "0100 0010 0000 0000" + none + "111"} {
		refuse(t, head+used, 6, api.ErrShort)
	}
}

// P12.2: groups' errors of what stands ahead of the symbols.
func TestTakeOfPlans(t *testing.T) {
	one, lengths := "000000000000001 ", " 00010 0 0 11 0 "
	for _, c := range []struct {
		plan string
		e    api.Errno
	}{
		{"000", api.ErrGroups},
		{"001", api.ErrGroups},
		{"111", api.ErrGroups},
		{"010 000000000000000", api.ErrGroups},
		{"010" + one + "11", api.ErrGroups},
		{"010" + one + "0 00000", api.ErrLengths},
		{"010" + one + "0 10101", api.ErrLengths},
		{"010" + one + "0 00001 11", api.ErrLengths},
		{"010" + one + "0 00001 0 0 0", api.ErrLengths},
		{"010" + one + "0" + lengths + "00001 0 0 10 0", api.ErrLengths},
		{"", api.ErrShort},
		{"010", api.ErrShort},
		{"010 00000000000000", api.ErrShort},
		{"010" + one, api.ErrShort},
		{"010" + one + "0" + lengths, api.ErrShort},
		{"010" + one + "0" + lengths + "00010 0 0 11", api.ErrShort},
	} {
		refuse(t, ofA().with(func(p *parts) { p.plan, p.list = c.plan, "" }).whole(), 6, c.e)
	}
}

// P12.2: tables have a length for each byte in use and two more; what is read with one less or one more is something else.
func TestTakeOfManySymbols(t *testing.T) {
	for n := 1; n <= 256; n++ {
		text := all()[256-n:]
		wantText(t, partsOf(text).bits().Text, 0, n, text, partsOf(text).bits().N)
	}
}

// sparse are the parts of a block of symbols, in tables in which 00, 01, 100, 101 and 110 are codes, and 111 is none. It is banana's, if the symbols are.
func sparse(list []int, picks int) parts {
	table := []int{2, 2, 3, 3, 3}
	return byPlan(crc.Bzip("banana"), 3, "abn", api.Plan{Tables: [][]int{table, table}, Picks: make([]int, picks)}, list)
}

// P12.2: groups' errors of the symbols.
func TestTakeOfLists(t *testing.T) {
	for picks := 1; picks < 4; picks++ { // picks may be more than groups
		p := sparse([]int{3, 0, 3, 3, 1, 4}, picks)
		wantText(t, p.bits().Text, 0, 6, "banana", p.bits().N)
		for _, digits := range []string{"", "1", "11", "0", "00 1", "10", "01 01 00 10", "100 101"} {
			p.list = digits
			refuse(t, p.whole(), 6, api.ErrShort)
		}
		for _, digits := range []string{"111", "00 111", "01 100 111", "101 101 111 110", "00 01 1111111"} {
			p.list = digits
			refuse(t, p.whole(), 6, api.ErrCode)
		}
		p.list = strings.Repeat("100", 50*picks)
		refuse(t, p.whole(), api.MaxText, api.ErrGroups)
		refuse(t, p.whole()+"110", api.MaxText, api.ErrGroups)
		refuse(t, p.whole()+"111", api.MaxText, api.ErrGroups)
		p.list = strings.Repeat("100", 50*picks-1)
		refuse(t, p.whole(), api.MaxText, api.ErrShort)
		refuse(t, p.whole()+"111", api.MaxText, api.ErrCode)
		refuse(t, p.whole()+"110", api.MaxText, api.ErrSum)
	}
}

// P12.2: zrun's error: more places than may be, by a run or by others, told behind what is wrong with symbols, wherever these stand.
func TestTakeOfTooManyPlaces(t *testing.T) {
	for _, c := range []struct {
		list   []int
		places int
	}{
		{[]int{3, 0, 3, 3, 1, 4}, 6},
		{[]int{0, 4}, 1},
		{[]int{1, 4}, 2},
		{[]int{0, 0, 4}, 3},
		{[]int{2, 4}, 1},
		{[]int{1, 1, 1, 1, 1, 2, 4}, 63},
		{[]int{2, 1, 1, 1, 1, 1, 4}, 63},
		{append(slices.Repeat([]int{1}, 17), 4), 262142},
		{append(slices.Repeat([]int{1}, 17), 2, 3, 4), 262144},
	} {
		p := sparse(c.list, 1)
		for _, most := range []int{1, 2, 5, 6, 62, 63, 262141, 262142, 262143, 262144} {
			text, sum, to, e := modelTake(p.bits().Text, row(p.bits().Text), 0, most)
			if (e == api.ErrBig) != (c.places > most) && c.places < 1000 {
				t.Fatal(c.list, most, int(e))
			}
			wantTake(t, p.bits().Text, 0, most, text, sum, to, e)
		}
		for _, most := range []int{c.places - 1, c.places / 2, 1} {
			if most < c.places && most > 0 {
				refuse(t, p.whole(), most, api.ErrBig)
				wrong := p.whole()[:len(p.whole())-3]
				refuse(t, wrong, most, api.ErrShort)
				refuse(t, wrong+"111", most, api.ErrCode)
			}
		}
	}
	for digits := 18; digits < 50; digits++ {
		list := append(slices.Repeat([]int{1}, digits), 4)
		refuse(t, sparse(list, 1).whole(), api.MaxText, api.ErrBig)
		list[digits-1] = 0
		refuse(t, sparse(list, 1).whole(), api.MaxText, api.ErrBig)
	}
}

// P12.2: no places, so that no row is there.
func TestTakeOfNoPlaces(t *testing.T) {
	for _, at := range []int{0, 1, 1<<24 - 1} {
		p := sparse([]int{4}, 1)
		p.row = fmt.Sprintf("%024b", at)
		p.sum = strings.Repeat("0", 32) // that of nothing
		refuse(t, p.whole(), 1, api.ErrOrigin)
	}
}

// P12.2: any row of a column tells the rotation that stands there; others are not there.
func TestTakeOfRows(t *testing.T) {
	c := chain(127)
	for _, text := range []string{"banana", "kist", "mississippi", all(), c.shorts(40, "abcdefghi")} { // none with a run of four
		last, _, _ := bwt.Forward(text)
		for at := range len(text) {
			rotation, _ := bwt.Back(last, at)
			p := ofColumn(crc.Bzip(rotation), at, last)
			wantText(t, p.bits().Text, 0, len(text), rotation, p.bits().N)
		}
		for _, at := range []int{len(text), len(text) + 1, 256, 1<<16 + 1, 1 << 23, 1<<24 - 1} {
			refuse(t, ofColumn(crc.Bzip(text), at, last).whole(), len(text), api.ErrOrigin)
		}
	}
	// A column that no text has.
	p := ofColumn(crc.Bzip("aa"), 0, "ab")
	wantText(t, p.bits().Text, 0, 2, "aa", p.bits().N)
	p = ofColumn(crc.Bzip("bb"), 1, "ab")
	wantText(t, p.bits().Text, 0, 2, "bb", p.bits().N)
}

// P12.2: rle's errors, ahead of another sum.
func TestTakeOfRuns(t *testing.T) {
	for _, short := range []string{"aaaa", "baaaa", "aaaa\x00aaaa", "aaaa\x04bbbb\x02cccc", "\xff\xff\xff\xff"} {
		for _, sum := range []uint32{0, crc.Bzip(short), crc.Bzip(short[:1])} {
			refuse(t, ofShort(sum, short).whole(), len(short), api.ErrRun)
		}
	}
	for _, short := range []string{"aaaa\x00", "aaaa\xff", "aaaa\x00aaaa\x00", "aaaa\x02a", "aaaa\xffaaa"} { // not as Encode tells them all
		text, _ := rle.Decode(short)
		p := ofShort(crc.Bzip(text), short)
		wantText(t, p.bits().Text, 0, len(short), text, p.bits().N)
		refuse(t, p.whole(), len(short)-1, api.ErrBig)
	}
	full := strings.Repeat("x", api.MaxText)
	p := partsOf(full)
	wantText(t, p.bits().Text, 0, len(rle.Encode(full)), full, p.bits().N)
	for _, more := range []string{"x", "y", "xx", full, strings.Repeat("z", 40)} {
		p := partsOf(full + more)
		for _, most := range []int{len(rle.Encode(full + more)), api.MaxText} {
			refuse(t, p.whole(), most, api.ErrBig)
			refuse(t, flipped(p.whole(), 50), most, api.ErrBig)
		}
	}
}

// P12.2, P12.3: another sum, in whichever bit.
func TestTakeOfSums(t *testing.T) {
	for _, text := range []string{"a", "banana", "aaaaab", letters(5, 300, 30)} {
		digits := partsOf(text).whole()
		for at := range 32 {
			refuse(t, flipped(digits, 48+at), len(text), api.ErrSum)
		}
		refuse(t, partsOf(text).with(func(p *parts) { p.sum = strings.Repeat("0", 32) }).whole(), len(text), api.ErrSum)
		short := rle.Encode(text)
		if short != text {
			refuse(t, ofShort(crc.Bzip(short), short).whole(), len(short), api.ErrSum)
		}
	}
}

// inFours are the parts of a block of a last column, all of whose codes have four bits; 1111 is none, if it has fewer than fourteen bytes in use.
func inFours(sum uint32, at int, last string) parts {
	used := symbols.Of(last)
	places, _ := symbols.Front(last, used)
	list, _ := zrun.Encode(len(used), places...)
	table := slices.Repeat([]int{4}, len(used)+2)
	return byPlan(sum, at, used, api.Plan{Tables: [][]int{table, table}, Picks: []int{0}}, list)
}

// fault is something that is wrong, and what Take answers, if nothing ahead of it is.
type fault struct {
	wreck func(p *parts, most *int)
	e     api.Errno
}

// faults are those of a block in fours, in the order in which Take tells them. The last but one, a run without its count, comes with the block.
func faults() []fault {
	return []fault{
		{func(_ *parts, most *int) { *most = 0 }, api.ErrArg},
		{func(p *parts, _ *int) { p.mark = flipped(p.mark, 0) }, api.ErrBlock},
		{func(p *parts, _ *int) { p.mixed = "1" }, api.ErrBlock},
		{func(p *parts, _ *int) { p.used = strings.Repeat("0", 16) }, api.ErrSymbol},
		{func(p *parts, _ *int) { p.plan = "111" + p.plan[3:] }, api.ErrGroups},
		{func(p *parts, _ *int) { p.plan = p.plan[:19] + "00000" + p.plan[24:] }, api.ErrLengths},
		{func(p *parts, _ *int) { p.list = p.list[:len(p.list)-4] + "1111" }, api.ErrCode},
		{func(_ *parts, most *int) { *most = min(*most, 3) }, api.ErrBig},
		{func(p *parts, _ *int) { p.row = strings.Repeat("1", 24) }, api.ErrOrigin},
		{func(*parts, *int) {}, api.ErrRun},
		{func(p *parts, _ *int) { p.sum = flipped(p.sum, 31) }, api.ErrSum},
	}
}

// P12.2: of several that are wrong the first is told.
func TestTakeInOrder(t *testing.T) {
	l := faults()
	for set := range 1 << len(l) {
		short := "kistaaaa\x00"
		if set>>(len(l)-2)&1 == 1 {
			short = "kistaaaa"
		}
		last, at, _ := bwt.Forward(short)
		p, most, want := inFours(crc.Bzip("kistaaaa"), at, last), 9, api.OK
		for i, f := range l {
			if set>>i&1 == 0 {
				continue
			}
			f.wreck(&p, &most)
			if want == api.OK {
				want = f.e
			}
		}
		if want == api.OK {
			wantText(t, p.bits().Text, 0, most, "kistaaaa", p.bits().N)
			continue
		}
		refuse(t, p.whole(), most, want)
	}
}

// P12.2: bits of all kinds, many of them nearly a block.
func TestTakeAsTheModel(t *testing.T) {
	c := chain(124)
	for range 6000 {
		digits := row(c.text(c.next()%40, all()))
		if kind := c.next() % 4; kind > 0 {
			digits = partsOf(c.runs(1+c.next()%40, 7, all()[:1+c.next()%6])).whole()
			for range c.next() % 4 {
				at := c.next() % len(digits)
				digits = digits[:at] + "01"[c.next()%2:][:1] + digits[at+c.next()%2:]
			}
			if kind == 1 {
				digits = digits[:headBits+c.next()%len(digits[headBits:])]
			}
		}
		text := piece(digits).Text
		for _, most := range []int{1 + c.next()%40, api.MaxText} {
			at := 0
			for range 2 {
				want, sum, to, e := modelTake(text, row(text), at, most)
				wantTake(t, text, at, most, want, sum, to, e)
				at = c.next() % (8*len(text) + 1)
			}
		}
	}
}

// P12.2: each bit behind the head another one.
func TestTakeOfFlippedBits(t *testing.T) {
	for _, text := range []string{"a", "banana", "aaaaab", letters(6, 200, 12)} {
		digits := partsOf(text).whole()
		for at := range digits {
			wrong := piece(flipped(digits, at)).Text
			for _, most := range []int{len(text), api.MaxText} {
				want, sum, to, e := modelTake(wrong, row(wrong), 0, most)
				wantTake(t, wrong, 0, most, want, sum, to, e)
			}
		}
	}
}

// P12.3: behind whatever bytes, behind bits that fill none, and with whatever bits behind.
func TestTakeOfMake(t *testing.T) {
	c := chain(125)
	for _, s := range texts() {
		b, e := block.Make(s)
		if e != api.OK {
			t.Fatal(int(e))
		}
		n := len(rle.Encode(s))
		ahead := c.text(c.next()%20, all())
		at := 8 * len(ahead)
		wantText(t, ahead+b.Text, at, n, s, b.N)
		wantText(t, ahead+b.Text+c.text(3, all()), at, n+1, s, b.N)
		at = c.next() % (at + 1)
		text := between(row(ahead)[:at], b, row(c.text(c.next()%4, all())))
		wantText(t, text, at, n, s, b.N)
		wantText(t, text, at, api.MaxText, s, b.N)
		if n > 1 {
			wantTake(t, text, at, n-1, "", 0, 0, api.ErrBig)
			wantTake(t, text, at, 1, "", 0, 0, api.ErrBig)
		}
		wantTake(t, between(row(ahead)[:at], piece(flipped(digitsOf(b), 79)), ""), at, n, "", 0, 0, api.ErrSum)
	}
}

// P12.3: at the limit, where the text itself is within it; one that is not is rle's ErrBig.
func TestTakeAtTheLimit(t *testing.T) {
	for name, s := range atLimit(t) {
		b, e := block.Make(s)
		if e != api.OK {
			t.Fatal(name, int(e))
		}
		if len(s) > api.MaxText {
			wantTake(t, b.Text, 0, api.MaxText, "", 0, 0, api.ErrBig)
			continue
		}
		wantText(t, b.Text, 0, api.MaxText, s, b.N)
		wantTake(t, b.Text, 0, api.MaxText-1, "", 0, 0, api.ErrBig)
		wantTake(t, b.Text, 0, 1, "", 0, 0, api.ErrBig)
	}
}

// Rule 5: an answer does not hang on what was asked ahead of it, and giving up leaves nothing behind.
func TestTakeAgain(t *testing.T) {
	b := ofBanana().bits()
	for range 3 {
		wantTake(t, b.Text[:9], 0, 6, "", 0, 0, api.ErrShort)
		wantText(t, b.Text, 0, 6, "banana", b.N)
		wantTake(t, "kist and kist", 0, 6, "", 0, 0, api.ErrBlock)
		wantMake(t, "banana", b, api.OK)
		wantMake(t, "", api.Bits{}, api.ErrArg)
	}
}
