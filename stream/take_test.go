package stream_test

import (
	"fmt"
	"slices"
	"strings"
	"testing"

	"kist/api"
	"kist/block"
	"kist/rle"
	"kist/stream"
)

// P13.2, P13.3
func TestTakeOfTheExamples(t *testing.T) {
	empty := "BZh1\x17\x72\x45\x38\x50\x90\x00\x00\x00\x00"
	read(t, empty, "")
	wantTake(t, empty+empty, 0, "", 14, api.OK)
	wantTake(t, empty+empty, 14, "", 28, api.OK)
	wantTake(t, empty+empty, 28, "", 0, api.ErrShort)
	wantUnpack(t, empty+empty, "", api.OK)
	refuse(t, "BZh0", api.ErrStream)
	refuse(t, "BZ", api.ErrShort)
	wantUnpack(t, "", "", api.ErrShort)
}

// P13.2: ErrArg goes ahead of all else, whatever stands there.
func TestTakeRefuses(t *testing.T) {
	good := ofTexts(1, "banana").whole()
	for _, s := range []string{"", "\x00", "BZh", "BZh9", good, good[:len(good)-1], good + good} {
		for _, at := range wrongPlaces(len(s)) {
			wantTake(t, s, at, "", 0, api.ErrArg)
		}
		wantTake(t, s, len(s), "", 0, api.ErrShort)
	}
}

// P13.2: the first four bytes, each of them all that there are, with what is ahead of it right or wrong.
func TestTakeOfHeads(t *testing.T) {
	good := ofTexts(9, "a").whole()
	for at := range 4 {
		refuse0(t, good[:at], api.ErrShort)
		for v := range 256 {
			b := string([]byte{byte(v)})
			wrong := good[:at] + b + good[at+1:]
			if b == good[at:at+1] || at == 3 && v >= '1' && v <= '9' {
				read(t, wrong, "a")
				continue
			}
			for n := range at + 1 {
				refuse0(t, wrong[:n], api.ErrShort)
			}
			for n := at + 1; n < len(good)+2; n++ {
				refuse0(t, (wrong + "BZ")[:n], api.ErrStream)
			}
		}
	}
	for _, s := range []string{"\x00", "bzh1", "BZ0", "BZh\x00", "BZh:", "BZh/", "BZHx", "ZB", "hZB1", "PK\x03\x04", "BBZh1"} {
		refuse(t, s, api.ErrStream)
	}
}

// refuse0 is refuse of a text that may be empty: behind a stream it says nothing then.
func refuse0(t *testing.T, s string, e api.Errno) {
	t.Helper()
	if s != "" {
		refuse(t, s, e)
		return
	}
	wantTake(t, s, 0, "", 0, e)
	wantTake(t, "BZh1", 4, "", 0, e)
	wantUnpack(t, s, "", e)
}

// P13.2: each end that is too soon.
func TestTakeOfWhatIsCut(t *testing.T) {
	for _, p := range []parts{ofTexts(1), ofTexts(2, "a"), ofTexts(3, "banana"), ofTexts(9, "aaaaa", "b", "kist"), ofTexts(4, all())} {
		whole := p.whole()
		for n := 1; n < len(whole); n++ {
			refuse(t, whole[:n], api.ErrShort)
		}
	}
}

// P13.2: fewer than 48 bits where a mark must stand are too few, whatever they are; 48 that are none are told, though nothing is behind them.
func TestTakeOfMarksThatEnd(t *testing.T) {
	seen := map[int]bool{}
	blocks := []string{}
	for _, s := range append([]string{""}, texts()...) {
		if s != "" {
			blocks = []string{digitsOfBlock(s)}
		}
		p := ofBlocks(7, blocks...)
		ahead := p.head + strings.Join(p.blocks, "")
		if seen[len(ahead)%8] && s != "" {
			continue
		}
		seen[len(ahead)%8] = true
		for n := range 56 {
			if (len(ahead)+n)%8 != 0 {
				continue
			}
			for _, bits := range []string{endDigits, blockDigits, strings.Repeat("0", 48), strings.Repeat("1", 48)} {
				want := api.ErrShort
				if n >= 48 && bits != endDigits && bits != blockDigits {
					want = api.ErrStream
				}
				refuse(t, text(ahead+(bits + "00000000")[:n]), want)
			}
		}
	}
	if len(seen) != 8 {
		t.Error(seen)
	}
}

// P13.2: other marks, of each place of a stream.
func TestTakeOfMarks(t *testing.T) {
	blocks := []string{digitsOfBlock("kist"), digitsOfBlock("keeps"), digitsOfBlock("files")}
	for at := range 48 {
		for i := range blocks {
			wrong := append([]string(nil), blocks...)
			wrong[i] = flipped(wrong[i], at)
			refuse(t, ofBlocks(1, wrong...).whole(), api.ErrStream)
		}
		for n := range len(blocks) + 1 {
			p := ofBlocks(1, blocks[:n]...)
			p.mark = flipped(p.mark, at)
			refuse(t, p.whole(), api.ErrStream)
		}
	}
}

// P13.2: another sum, in each bit, of streams of no block and of more; fewer bits of it.
func TestTakeOfSums(t *testing.T) {
	for _, p := range []parts{ofTexts(1), ofTexts(2, "a"), ofTexts(3, "ban", "ana"), ofTexts(9, "aaaaa", "b", "kist")} {
		for at := range 32 {
			wrong := p
			wrong.sum = flipped(p.sum, at)
			refuse(t, wrong.whole(), api.ErrSum)
		}
		ahead := row(p.whole())
		ahead = ahead[:len(ahead)-len(p.fill)-32]
		for n := range 32 {
			if (len(ahead)+n)%8 == 0 {
				refuse(t, text(ahead+p.sum[:n]), api.ErrShort)
				refuse(t, text(ahead+strings.Repeat("1", n)), api.ErrShort)
			}
		}
	}
	// The blocks' order counts, and each block.
	p := ofTexts(3, "ban", "ana")
	p.blocks[0], p.blocks[1] = p.blocks[1], p.blocks[0]
	refuse(t, p.whole(), api.ErrSum)
	p = ofTexts(3, "ban", "ana", "ban")
	p.blocks = p.blocks[:2]
	p.fill = p.noughts()
	refuse(t, p.whole(), api.ErrSum)
}

// P13.2: the bits behind the sum may be any, and the number is that of the byte behind them.
func TestTakeOfFills(t *testing.T) {
	seen := map[int]bool{}
	for _, s := range texts() {
		p := ofTexts(6, modelParts(s, 100)...)
		n := len(p.fill)
		if seen[n] {
			continue
		}
		seen[n] = true
		for v := range 1 << n {
			p.fill = fmt.Sprintf("%08b", v)[8-n:]
			whole := p.whole()
			read(t, whole, s)
			wantTake(t, whole+"\xff", 0, s, len(whole), api.OK)
			wantTake(t, "\xff"+whole+"BZ", 1, s, len(whole)+1, api.OK)
			wantUnpack(t, whole+whole, s+s, api.OK)
		}
	}
	if len(seen) != 8 {
		t.Error(seen)
	}
}

// P13.2: what block's Take refuses, in the first block and behind another one.
func TestTakeOfBlocks(t *testing.T) {
	for _, c := range []struct {
		sum, mixed, row, used, plan, list string
		e                                 api.Errno
	}{
		{aSum, "0", aRow, aUsed, aPlan, "10 0", api.OK},
		{aSum, "1", aRow, aUsed, aPlan, "10 0", api.ErrBlock},
		{aSum, "0", aRow, strings.Repeat("0", 16), aPlan, "10 0", api.ErrSymbol},
		{aSum, "0", aRow, aUsed, "000", "", api.ErrGroups},
		{aSum, "0", aRow, aUsed, "010 000000000000001 0 00000", "", api.ErrLengths},
		{aSum, "0", aRow, aUsed, "010 000000000000001 0 00010 0 0 0 00010 0 0 0", "11", api.ErrCode},
		{aSum, "0", aRow, aUsed, aPlan, strings.Repeat("10", 50), api.ErrGroups},
		{aSum, "0", aRow, aUsed, aPlan, strings.Repeat("11", 18) + "0", api.ErrBig},
		{aSum, "0", strings.Repeat("0", 23) + "1", aUsed, aPlan, "10 0", api.ErrOrigin},
		{aSum, "0", aRow, aUsed, aPlan, "0", api.ErrOrigin},
		{aSum, "0", aRow, aUsed, aPlan, "11 10 0", api.ErrRun},
		{aSum, "0", aRow, aUsed, aPlan, "11 0", api.ErrSum},
		{strings.Repeat("0", 32), "0", aRow, aUsed, aPlan, "10 0", api.ErrSum},
	} {
		digits := strings.ReplaceAll(blockDigits+c.sum+c.mixed+c.row+c.used+c.plan+c.list, " ", "")
		for level := 1; level <= 9; level++ {
			first, second := ofBlocks(level, digits, digitsOfBlock("kist")), ofBlocks(level, digitsOfBlock("kist"), digits)
			if c.e == api.OK {
				read(t, first.whole(), "akist")
				read(t, second.whole(), "kista")
				continue
			}
			refuse(t, first.whole(), c.e)
			refuse(t, second.whole(), c.e)
			refuse(t, ofBlocks(level, digits, digits).whole(), c.e)
		}
	}
}

// P13.2: a block's RLE text has at most as many bytes as its stream's level gives room to.
func TestTakeOfRooms(t *testing.T) {
	for _, level := range []int{1, 2, 3, 4, 9} {
		room := rooms()[level-1]
		read(t, ofTexts(level, flat(room)).whole(), flat(room))
		read(t, ofTexts(level, flat(room-1)).whole(), flat(room-1))
		fours := strings.Repeat("aaaabbbb", room/10) // their RLE text is as long as the room, or as near as it gets
		read(t, ofTexts(level, "kist", fours).whole(), "kist"+fours)
		if room < api.MaxText {
			refuse(t, ofTexts(level, flat(room+1)).whole(), api.ErrBig)
			refuse(t, ofTexts(level, "kist", flat(room+1)).whole(), api.ErrBig)
			refuse(t, ofTexts(level, fours+"a").whole(), api.ErrBig)
			read(t, ofTexts(level+1, flat(room+1)).whole(), flat(room+1))
		}
	}
	read(t, ofTexts(1, run(200000)).whole(), run(200000)) // it is the RLE text that counts
}

// P13.2: a block with more places than MaxText is refused as too big at each level, and one with as many is looked at: its noughts are a run without a count.
func TestTakeOfTheGreatestRoom(t *testing.T) {
	used := "1000 0000 0000 0000 1000 0000 0000 0000"
	ofRun := func(list string) string {
		return strings.ReplaceAll(blockDigits+aSum+"0"+aRow+used+aPlan+list, " ", "")
	}
	full := "10 11" + strings.Repeat("10", 16) + "0" // 262143 and 2 noughts
	last := "11" + strings.Repeat("10", 17) + "0"    // 262143 and 1
	for level := 1; level <= 9; level++ {
		refuse(t, ofBlocks(level, ofRun(full)).whole(), api.ErrBig)
		if rooms()[level-1] == api.MaxText {
			refuse(t, ofBlocks(level, ofRun(last)).whole(), api.ErrRun)
		} else {
			refuse(t, ofBlocks(level, ofRun(last)).whole(), api.ErrBig)
		}
	}
}

// P13.2: all texts together, and what is told ahead of and behind them.
func TestTakeOfMuch(t *testing.T) {
	const n = 262144
	for _, l := range [][]string{
		{flat(n)},
		{run(n)},
		{run(n - 1), "x"},
		{"x", run(n - 1)},
		{run(n / 2), run(n / 2)},
		{run(n - 2), "x", "y"},
		{run(100000), run(100000), run(n - 200000)},
	} {
		blocks := ofTexts(9, l...).blocks
		read(t, ofBlocks(9, blocks...).whole(), strings.Join(l, ""))
		for _, more := range [][]string{{"x"}, {"x", "y"}, {"xy"}, {run(n)}} {
			behind := ofTexts(9, more...).blocks
			p := ofBlocks(9, slices.Concat(blocks, behind)...)
			refuse(t, p.whole(), api.ErrBig)
			p.sum = flipped(p.sum, 7)
			refuse(t, p.whole(), api.ErrBig)
			p.mark = flipped(p.mark, 7)
			refuse(t, p.whole(), api.ErrBig)
			p.mark, p.sum, p.fill = "", "", ""
			refuse(t, p.whole(), api.ErrBig)
			refuse(t, ofBlocks(9, slices.Concat(behind, blocks)...).whole(), api.ErrBig)
		}
		for at, e := range map[int]api.Errno{0: api.ErrStream, 50: api.ErrSum, 80: api.ErrBlock} { // another block's errors go ahead of how much there is with it
			wrong := flipped(digitsOfBlock("x"), at)
			refuse(t, ofBlocks(9, slices.Concat(blocks, []string{wrong})...).whole(), e)
		}
	}
}

// fault is something that is wrong, and what Take answers, if nothing ahead of it is.
type fault struct {
	wreck func(*parts, *int)
	e     api.Errno
}

// wreckBlock flips a bit of a block.
func wreckBlock(i, at int) func(*parts, *int) {
	return func(p *parts, _ *int) { p.blocks[i] = flipped(p.blocks[i], at) }
}

// faults are those of a stream of three blocks, in the order in which Take tells them.
func faults() []fault {
	many := digitsOfBlock(run(262144))
	return []fault{
		{func(_ *parts, at *int) { *at = -1 }, api.ErrArg},
		{func(p *parts, _ *int) { p.head = flipped(p.head, 31-8) }, api.ErrStream},
		{wreckBlock(0, 80), api.ErrBlock},
		{wreckBlock(0, 50), api.ErrSum},
		{func(p *parts, _ *int) { p.blocks[1] = many }, api.ErrBig},
		{wreckBlock(2, 5), api.ErrStream},
		{wreckBlock(2, 81), api.ErrOrigin},
		{func(p *parts, _ *int) { p.mark = flipped(p.mark, 47) }, api.ErrStream},
		{func(p *parts, _ *int) { p.sum = p.sum[:len(p.sum)-8] }, api.ErrShort},
		{func(p *parts, _ *int) { p.sum = flipped(p.sum, 0) }, api.ErrSum},
	}
}

// P13.2: of several that are wrong the first is told.
func TestTakeInOrder(t *testing.T) {
	l := faults()
	for set := range 1 << len(l) {
		p, at, want := ofTexts(9, "kist", "keeps", "files"), 0, api.OK
		for i, f := range l {
			if set>>i&1 == 0 {
				continue
			}
			f.wreck(&p, &at)
			if want == api.OK {
				want = f.e
			}
		}
		p.fill = ""
		if want == api.OK {
			read(t, p.whole(), "kistkeepsfiles")
			continue
		}
		wantTake(t, p.whole(), at, "", 0, want)
	}
}

// P13.2: each bit another one.
func TestTakeOfFlippedBits(t *testing.T) {
	for _, p := range []parts{ofTexts(1), ofTexts(9, "a"), ofTexts(3, "ban", "ana"), ofTexts(5, "kist keeps files", "aaaaab")} {
		digits := row(p.whole())
		for at := range digits {
			wrong := text(flipped(digits, at))
			want, to, e := modelTake(wrong, 0)
			wantTake(t, wrong, 0, want, to, e)
		}
	}
}

// P13.2: texts of all kinds, many of them nearly a stream, wherever they are read.
func TestTakeAsTheModel(t *testing.T) {
	c := chain(135)
	for range 3000 {
		s := c.text(c.next()%30, all())
		for range c.next() % 3 {
			part := c.runs(c.next()%30, 7, all()[:1+c.next()%6])
			digits := row(ofTexts(1+c.next()%9, modelParts(part, 1+c.next()%40)...).whole())
			for range c.next() % 3 {
				at := c.next() % len(digits)
				digits = digits[:at] + "01"[c.next()%2:][:1] + digits[at+c.next()%2:]
			}
			s += text(digits)
		}
		s = s[c.next()%(len(s)+1)/3:]
		for at := range len(s) + 1 {
			want, to, e := modelTake(s, at)
			wantTake(t, s, at, want, to, e)
		}
		want, e := modelUnpack(s)
		wantUnpack(t, s, want, e)
	}
}

// P13.4: behind whatever bytes, and with whatever behind.
func TestTakeOfPack(t *testing.T) {
	c := chain(136)
	for _, s := range texts() {
		for level := 1; level <= 9; level++ {
			most := 1 + c.next()%(len(s)+10)
			packed := pack(t, s, level, most)
			ahead, behind := c.text(c.next()%20, all()), c.text(c.next()%20, all())
			wantTake(t, ahead+packed+behind, len(ahead), s, len(ahead)+len(packed), api.OK)
			read(t, packed, s)
		}
	}
}

// P13.2: what is read need not be as Pack would tell it: blocks may be shorter, and in any order.
func TestTakeOfOtherBlocks(t *testing.T) {
	c := chain(137)
	for range 200 {
		var l []string
		for range c.next() % 6 {
			l = append(l, c.runs(1+c.next()%300, 40, "abc"))
		}
		read(t, ofTexts(1+c.next()%9, l...).whole(), strings.Join(l, ""))
	}
}

// Rule 5: an answer does not hang on what was asked ahead of it.
func TestTakeAgain(t *testing.T) {
	good := ofTexts(4, "banana", "bandana").whole()
	for range 3 {
		refuse(t, good[:len(good)-1], api.ErrShort)
		read(t, good, "bananabandana")
		refuse(t, "kist and kist", api.ErrStream)
		wantPack(t, "a", 0, 1, "", api.ErrArg)
		wantPack(t, "bananabandana", 4, 13, ofTexts(4, "bananabandana").whole(), api.OK)
	}
}

// The tests' texts are what they are taken for.
func TestTheTexts(t *testing.T) {
	for _, n := range []int{1, 17, 18, 19, 1000, 262144} {
		if s := flat(n); len(s) != n || rle.Encode(s) != s {
			t.Error(n, len(s))
		}
	}
	b, e := block.Make("a")
	if want := strings.ReplaceAll(aBlock, " ", ""); e != api.OK || row(b.Text)[:b.N] != want {
		t.Error(row(b.Text), want)
	}
	if packed, e := stream.Pack("a", 9, 1); e != api.OK || row(packed)[32:32+b.N] != row(b.Text)[:b.N] {
		t.Error(row(packed), int(e))
	}
}
