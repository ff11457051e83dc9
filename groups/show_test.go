package groups_test

import (
	"fmt"
	"math"
	"slices"
	"strings"
	"testing"

	"kist/api"
	"kist/groups"
)

// wantShow tells what Show answers against what it should.
func wantShow(t *testing.T, p api.Plan, want api.Bits, wantE api.Errno) {
	t.Helper()
	if b, e := groups.Show(p); b != want || e != wantE {
		t.Fatalf("Show(%s) = %d bits %.60x, %d, not %d bits %.60x, %d", short(p), b.N, b.Text, int(e), want.N, want.Text, int(wantE))
	}
}

// wantTake tells what Take answers against what it should.
func wantTake(t *testing.T, s string, at, n int, want api.Plan, wantTo int, wantE api.Errno) {
	t.Helper()
	p, to, e := groups.Take(s, at, n)
	wantPlan(t, fmt.Sprintf("Take(%.60x; %d from %d)", s, n, at), p, e, want, wantE)
	if to != wantTo {
		t.Fatalf("Take(%.60x; %d from %d) is behind at %d, not at %d", s, n, at, to, wantTo)
	}
}

const (
	oneTwoTwo = " 00001 0 100 0 "
	onePick   = " 000000000000001 "
)

// P11.4
func TestShowOfTheExample(t *testing.T) {
	p := api.Plan{Tables: [][]int{{1, 2, 2}, {1, 2, 2}}, Picks: []int{0}}
	b := piece("010" + onePick + "0" + oneTwoTwo + oneTwoTwo)
	if b.N != 39 {
		t.Fatal(b.N)
	}
	wantShow(t, p, b, api.OK)
	wantTake(t, b.Text, 0, 3, p, 39, api.OK)
}

// P11.4: each pick is moved to the front, behind which those that it passed stand in their order.
func TestShowOfPicks(t *testing.T) {
	for _, c := range []struct {
		tables int
		picks  []int
		digits string
	}{
		{2, []int{0}, "010 000000000000001 0"},
		{2, []int{1}, "010 000000000000001 10"},
		{2, []int{1, 1, 0, 0, 1}, "010 000000000000101 10 0 10 0 10"},
		{3, []int{2, 1, 0}, "011 000000000000011 110 110 110"},
		{3, []int{2, 0, 1, 2}, "011 000000000000100 110 10 110 110"},
		{6, []int{5, 5, 0, 4, 5, 3}, "110 000000000000110 111110 0 10 111110 110 111110"},
		{4, []int{2, 3, 2, 0, 1, 1}, "100 000000000000110 110 1110 10 110 1110 0"},
		{5, []int{4}, "101 000000000000001 11110"},
	} {
		p := api.Plan{Tables: slices.Repeat([][]int{{1, 2, 2}}, c.tables), Picks: c.picks}
		b := piece(c.digits + strings.Repeat(oneTwoTwo, c.tables))
		wantShow(t, p, b, api.OK)
		wantTake(t, b.Text, 0, 3, p, b.N, api.OK)
	}
}

// P11.4
func TestShowAsTheModel(t *testing.T) {
	for _, p := range somePlans() {
		wantShow(t, p, piece(modelShow(p)), api.OK)
	}
}

// P11.4, P11.5: a plan that may not be is refused ahead of all else.
func TestPlansThatMayNotBe(t *testing.T) {
	for _, p := range wrongPlans() {
		if modelMayBe(p) {
			t.Fatal(p)
		}
		wantShow(t, p, api.Bits{}, api.ErrGroups)
		for _, list := range [][]int{nil, {}, {0}, {0, 1}, {-1}, {1 << 40}} {
			wantPut(t, p, list, api.Bits{}, api.ErrGroups)
			wantSize(t, p, list, 0, api.ErrGroups)
		}
		for _, at := range []int{0, 8, -1, 25, math.MaxInt} {
			wantGet(t, p, "\xff\x00\xff", at, nil, 0, api.ErrGroups)
			wantGet(t, p, "", at, nil, 0, api.ErrGroups)
		}
	}
}

// takeRow asks for a plan out of bits that stand at a text's end, so that behind them there is none.
func takeRow(t *testing.T, digits string, n int, want api.Plan, wantE api.Errno) {
	t.Helper()
	digits = strings.ReplaceAll(digits, " ", "")
	ahead := (8 - len(digits)%8) % 8
	p := piece(strings.Repeat("1", ahead) + digits)
	wantTo := 0
	if wantE == api.OK {
		wantTo = p.N
	}
	wantTake(t, p.Text, ahead, n, want, wantTo, wantE)
}

// P11.4: tables are not 2 to 6, or picks are none: told ahead of bits that are not there behind them, and not ahead of their own.
func TestTakeOfCounts(t *testing.T) {
	for _, digits := range []string{"", "0", "1", "00", "01", "11"} {
		takeRow(t, digits, 3, api.Plan{}, api.ErrShort)
	}
	for _, digits := range []string{"000", "001", "111"} {
		for _, behind := range []string{"", "0", "00000000000000", "000000000000000", onePick, onePick + "0" + oneTwoTwo + oneTwoTwo} {
			takeRow(t, digits+behind, 3, api.Plan{}, api.ErrGroups)
		}
	}
	for _, digits := range []string{"010", "011", "100", "101", "110"} {
		for _, behind := range []string{"", "0", "1", "00000000000000", "11111111111111"} {
			takeRow(t, digits+behind, 3, api.Plan{}, api.ErrShort)
		}
		for _, behind := range []string{"", "0", "1", "111111111", "0" + oneTwoTwo + oneTwoTwo, "11111111"} {
			takeRow(t, digits+"000000000000000"+behind, 3, api.Plan{}, api.ErrGroups)
		}
		takeRow(t, digits+onePick, 3, api.Plan{}, api.ErrShort)
		tables := number(digits)
		takeRow(t, digits+onePick+"0"+strings.Repeat(oneTwoTwo, tables), 3, api.Plan{Tables: slices.Repeat([][]int{{1, 2, 2}}, tables), Picks: []int{0}}, api.OK)
		takeRow(t, digits+onePick+"0"+strings.Repeat(oneTwoTwo, tables-1), 3, api.Plan{}, api.ErrShort)
	}
}

// P11.4: a place of as many 1 bits as there are tables is told at the last of these.
func TestTakeOfPlaces(t *testing.T) {
	for tables := 2; tables <= 6; tables++ {
		head := fmt.Sprintf("%03b", tables)
		for ones := 0; ones <= 9; ones++ {
			place := strings.Repeat("1", ones)
			if ones >= tables {
				takeRow(t, head+onePick+place, 3, api.Plan{}, api.ErrGroups)
				takeRow(t, head+onePick+place+"0", 3, api.Plan{}, api.ErrGroups)
				takeRow(t, head+"000000000000011 0 10"+place, 3, api.Plan{}, api.ErrGroups)
				takeRow(t, head+"000000000000011 0 0"+place+"0 0000 0", 3, api.Plan{}, api.ErrGroups)
				continue
			}
			takeRow(t, head+onePick+place, 3, api.Plan{}, api.ErrShort)
			takeRow(t, head+onePick+place+"0", 3, api.Plan{}, api.ErrShort)
			takeRow(t, head+"000000000000010"+place+"0"+place, 3, api.Plan{}, api.ErrShort)
			takeRow(t, head+onePick+place+"0"+strings.Repeat(oneTwoTwo, tables), 3, api.Plan{Tables: slices.Repeat([][]int{{1, 2, 2}}, tables), Picks: []int{ones}}, api.OK)
		}
	}
}

// P11.4: of each table delta's error, then Check's, ahead of those of the tables behind it.
func TestTakeOfTables(t *testing.T) {
	head := "010" + onePick + "0"
	for _, wrong := range []string{"00000", "10101", "11111", "00001 11", "10100 0 10", "00001 0 0 0", "00001 0 0 100", "00010 0 11 0 0"} {
		for _, behind := range []string{"", "1", oneTwoTwo, "00000", "11111 0"} {
			takeRow(t, head+wrong+behind, 3, api.Plan{}, api.ErrLengths)
			takeRow(t, head+oneTwoTwo+wrong+behind, 3, api.Plan{}, api.ErrLengths)
		}
	}
	for _, short := range []string{"", "0000", "1111", "00001", "00001 0", "00001 0 0", "00001 0 1", "00001 0 10", "00001 0 100", "00001 0 100 1"} {
		takeRow(t, head+short, 3, api.Plan{}, api.ErrShort)
		takeRow(t, head+oneTwoTwo+short, 3, api.Plan{}, api.ErrShort)
	}
	takeRow(t, head+oneTwoTwo+"00010 0 0 0", 3, api.Plan{Tables: [][]int{{1, 2, 2}, {2, 2, 2}}, Picks: []int{0}}, api.OK)
	takeRow(t, head+"10100 0 0 0"+oneTwoTwo, 3, api.Plan{Tables: [][]int{{20, 20, 20}, {1, 2, 2}}, Picks: []int{0}}, api.OK)
	takeRow(t, head+"00001 10 0 11 0 10 0"+"00010 0 11 0 10 0", 3, api.Plan{Tables: [][]int{{2, 1, 2}, {2, 1, 2}}, Picks: []int{0}}, api.OK)
}

// P11.4: places that are not there, and too few or too many symbols, ahead of all else.
func TestTakeRefuses(t *testing.T) {
	good := piece("010" + onePick + "0" + oneTwoTwo + oneTwoTwo).Text
	for _, s := range []string{"", "\x00", "\xff\xff", "\x40\x00", good, good + strings.Repeat("\x00", 40)} {
		for _, n := range []int{3, 4, 258} {
			for _, at := range wrongNumbers(0, 8*len(s)) {
				wantTake(t, s, at, n, api.Plan{}, 0, api.ErrArg)
			}
			wantTake(t, s, 8*len(s), n, api.Plan{}, 0, api.ErrShort)
		}
		for _, n := range append(wrongNumbers(3, 258), 259) {
			for _, at := range []int{0, 1, 8 * len(s), -1, 8*len(s) + 1, math.MinInt, math.MaxInt} {
				wantTake(t, s, at, n, api.Plan{}, 0, api.ErrArg)
			}
		}
	}
	tens := "01010" + strings.Repeat("0", 259)
	for _, n := range []int{3, 257, 258} {
		b := piece("010" + onePick + "10" + tens[:5+n] + tens[:5+n])
		wantTake(t, b.Text, 0, n, api.Plan{Tables: slices.Repeat([][]int{slices.Repeat([]int{10}, n)}, 2), Picks: []int{1}}, 20+2*(5+n), api.OK)
	}
	wantTake(t, piece("010"+onePick+"10"+tens+tens).Text, 0, 259, api.Plan{}, 0, api.ErrArg)
}

// P11.4: bits of all kinds, many of them nearly a plan.
func TestTakeAsTheModel(t *testing.T) {
	c := chain(117)
	for range 4000 {
		digits := row(c.text(c.next() % 40))
		if kind := c.next() % 4; kind > 0 {
			n := 3 + c.next()%4
			p := c.plan(2+c.next()%5, 1+c.next()%12, n)
			digits = modelShow(p)
			for range c.next() % 3 {
				at := c.next() % len(digits)
				digits = digits[:at] + "01"[c.next()%2:][:1] + digits[at+c.next()%2:]
			}
			if kind == 1 {
				digits = digits[:c.next()%len(digits)]
			}
		}
		text := piece(digits).Text
		for _, n := range []int{3, 4, 5, 6} {
			want, wantTo, wantE := modelTake(row(text), 0, n)
			wantTake(t, text, 0, n, want, wantTo, wantE)
		}
		at := c.next() % (8*len(text) + 1)
		want, wantTo, wantE := modelTake(row(text), at, 3)
		wantTake(t, text, at, 3, want, wantTo, wantE)
	}
}

// P11.4: each end that is too soon.
func TestTakeOfWhatIsCut(t *testing.T) {
	c := chain(118)
	for tables := 2; tables <= 6; tables++ {
		p := c.plan(tables, 30, 5)
		digits := modelShow(p)
		for n := range digits {
			takeRow(t, digits[:n], 5, api.Plan{}, api.ErrShort)
		}
		takeRow(t, digits, 5, p, api.OK)
	}
}

// P11.6: behind whatever bytes, behind bits that fill none, and with whatever bits behind.
func TestTakeOfShow(t *testing.T) {
	c := chain(119)
	for _, p := range somePlans() {
		b, e := groups.Show(p)
		if e != api.OK {
			t.Fatal(int(e))
		}
		n := len(p.Tables[0])
		ahead := c.text(c.next() % 20)
		at := 8 * len(ahead)
		wantTake(t, ahead+b.Text, at, n, p, at+b.N, api.OK)
		wantTake(t, ahead+b.Text+c.text(3), at, n, p, at+b.N, api.OK)
		at = c.next() % (at + 1)
		wantTake(t, between(row(ahead)[:at], b, row(c.text(c.next()%4))), at, n, p, at+b.N, api.OK)
		wantTake(t, between(strings.Repeat("1", at), b, ""), at, n, p, at+b.N, api.OK)
	}
}

// Rule 4: what is handed in is not changed, nor its spare room; what is handed out is new, and so is each list in it. Rule 5: an answer does not hang on what was asked ahead of it.
func TestShowAlone(t *testing.T) {
	c := chain(120)
	p := c.plan(4, 30, 9)
	for table, l := range p.Tables {
		p.Tables[table] = append(l, 7, 7, 7)[:9]
	}
	p.Tables = append(p.Tables, []int{9})[:4]
	p.Picks = append(p.Picks, 5, 5)[:30]
	before := clone(api.Plan{Tables: p.Tables[:5], Picks: p.Picks[:32]})
	digits := piece(modelShow(p))
	for range 2 {
		wantShow(t, p, digits, api.OK)
		wantShow(t, api.Plan{}, api.Bits{}, api.ErrGroups)
		got, _, _ := groups.Take(digits.Text, 0, 9)
		for table := range got.Tables {
			others := clone(got)
			clear(got.Tables[table][:cap(got.Tables[table])])
			clear(others.Tables[table])
			if !same(got, others) {
				t.Fatal("two tables share memory", table)
			}
		}
		wreck(got)
		wantTake(t, digits.Text, 0, 2, api.Plan{}, 0, api.ErrArg)
		wantTake(t, digits.Text, 0, 9, p, digits.N, api.OK)
		if !same(before, api.Plan{Tables: p.Tables[:5], Picks: p.Picks[:32]}) || p.Tables[0][:12][9] != 7 {
			t.Fatal("changed")
		}
	}
}
