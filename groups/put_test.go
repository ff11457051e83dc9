package groups_test

import (
	"math"
	"slices"
	"strings"
	"testing"

	"kist/api"
	"kist/groups"
)

// wantPut tells what Put answers against what it should.
func wantPut(t *testing.T, p api.Plan, list []int, want api.Bits, wantE api.Errno) {
	t.Helper()
	if b, e := groups.Put(p, list); b != want || e != wantE {
		t.Fatalf("Put(%s; %s) = %d bits %.60x, %d, not %d bits %.60x, %d", short(p), short(list), b.N, b.Text, int(e), want.N, want.Text, int(wantE))
	}
}

// wantSize tells what Size answers against what it should.
func wantSize(t *testing.T, p api.Plan, list []int, want int, wantE api.Errno) {
	t.Helper()
	if n, e := groups.Size(p, list); n != want || e != wantE {
		t.Fatalf("Size(%s; %s) = %d, %d, not %d, %d", short(p), short(list), n, int(e), want, int(wantE))
	}
}

// wantGet tells what Get answers against what it should.
func wantGet(t *testing.T, p api.Plan, s string, at int, want []int, wantTo int, wantE api.Errno) {
	t.Helper()
	if list, to, e := groups.Get(p, s, at); !slices.Equal(list, want) || to != wantTo || e != wantE {
		t.Fatalf("Get(%s; %.60x from %d) = %s, %d, %d, not %s, %d, %d", short(p), s, at, short(list), to, int(e), short(want), wantTo, int(wantE))
	}
}

// twoTables is a plan in which the symbol 0 is a bit in the tables that are picked first and last, and two in the other.
func twoTables() api.Plan {
	return api.Plan{Tables: [][]int{{1, 2, 2}, {2, 2, 1}}, Picks: []int{0, 1, 0}}
}

// P11.5
func TestPutByHand(t *testing.T) {
	p := twoTables()
	wantPut(t, p, nil, api.Bits{}, api.OK)
	wantPut(t, p, []int{}, api.Bits{}, api.OK)
	wantSize(t, p, nil, 18+4+11-1+9+1+1, api.OK)
	wantPut(t, p, []int{0, 1, 2}, piece("0 10 11"), api.OK)
	wantGet(t, p, "\x58", 0, []int{0, 1, 2}, 5, api.OK)
	zeros := strings.Repeat("0", 50)
	wantPut(t, p, make([]int, 50), piece(zeros), api.OK)
	wantPut(t, p, append(make([]int, 50), 2), piece(zeros+"0"), api.OK)
	wantPut(t, p, append(make([]int, 50), 0, 1, 2), piece(zeros+"10 11 0"), api.OK)
	tens := strings.Repeat("10", 50)
	wantPut(t, p, append(make([]int, 100), 1, 0), piece(zeros+tens+"10 0"), api.OK)
	wantPut(t, p, make([]int, 150), piece(zeros+tens+zeros), api.OK)
	wantGet(t, p, piece(zeros+tens+"10 11").Text, 0, append(make([]int, 100), 1, 2), 154, api.OK)
	wantGet(t, p, piece(zeros+tens+zeros[1:]+"11").Text, 0, append(make([]int, 149), 2), 201, api.OK)
}

// P11.5: a pick for each group, and no more groups than picks; picks may be more.
func TestPutOfTooManyGroups(t *testing.T) {
	p := twoTables()
	size := len(modelShow(p))
	wantSize(t, p, make([]int, 150), size+50+100+50, api.OK)
	for _, m := range []int{151, 152, 200, 1000} {
		wantPut(t, p, make([]int, m), api.Bits{}, api.ErrGroups)
		wantSize(t, p, make([]int, m), 0, api.ErrGroups)
		wantPut(t, p, append(make([]int, m), -1), api.Bits{}, api.ErrGroups)
		wantSize(t, p, append(make([]int, m), 3), 0, api.ErrGroups)
	}
	p.Picks = []int{1}
	wantPut(t, p, make([]int, 50), piece(strings.Repeat("10", 50)), api.OK)
	wantPut(t, p, make([]int, 51), api.Bits{}, api.ErrGroups)
	wantPut(t, p, slices.Repeat([]int{2}, 50), piece(strings.Repeat("0", 50)), api.OK)
}

// P11.5
func TestPutAsTheModel(t *testing.T) {
	c := chain(121)
	for _, p := range somePlans() {
		n := len(p.Tables[0])
		for _, m := range []int{1, 49, 50, 51, 100, 101, min(3000, 50*len(p.Picks)), min(3000, 50*len(p.Picks)) + 1} {
			list := c.skewed(m, n)
			digits, e := modelPut(p, list)
			wantPut(t, p, list, piece(digits), e)
			size := 0
			if e == api.OK {
				size = len(modelShow(p)) + len(digits)
			}
			wantSize(t, p, list, size, e)
		}
	}
	for _, s := range someLists()[:400] {
		p, _ := groups.Choose(s.list, s.n)
		digits, e := modelPut(p, s.list)
		wantPut(t, p, s.list, piece(digits), e)
		wantSize(t, p, s.list, modelSize(p, s.list), e)
	}
}

// P11.5: a symbol that there is none of, wherever it stands.
func TestPutRefuses(t *testing.T) {
	c := chain(122)
	for _, n := range []int{3, 20, 258} {
		p := c.plan(3, 4, n)
		for _, s := range append(wrongNumbers(0, n-1), 258, 259) {
			for _, list := range [][]int{{s}, {0, s}, {s, 0}, {n - 1, 0, s, 1}, append(make([]int, 49), s), append(make([]int, 50), s), append(make([]int, 199), s), append([]int{s}, make([]int, 199)...)} {
				wantPut(t, p, list, api.Bits{}, api.ErrSymbol)
				wantSize(t, p, list, 0, api.ErrSymbol)
			}
			wantPut(t, p, append(make([]int, 200), s), api.Bits{}, api.ErrGroups)
			wantPut(t, p, append([]int{s}, make([]int, 200)...), api.Bits{}, api.ErrGroups)
		}
	}
}

// P11.5: places that are not there.
func TestGetRefuses(t *testing.T) {
	for _, p := range []api.Plan{twoTables(), {Tables: [][]int{{2, 2, 2}, {20, 20, 20}}, Picks: []int{1}}} {
		for _, s := range []string{"", "\x58", "\xff\xff\xff"} {
			for _, at := range wrongNumbers(0, 8*len(s)) {
				wantGet(t, p, s, at, nil, 0, api.ErrArg)
			}
			wantGet(t, p, s, 8*len(s), nil, 0, api.ErrShort)
		}
	}
}

// P11.5: symbol by symbol: a group without a pick is told ahead of bits that are not there or that no code begins with; these are told where they stand.
func TestGetOfTheFirstError(t *testing.T) {
	p := api.Plan{Tables: [][]int{{1, 2, 3}, {3, 2, 2}}, Picks: []int{0}}
	for _, behind := range []string{"", "0", "111", "110", "1111111111", "00000000000"} {
		digits := strings.Repeat("1", 6) + strings.Repeat("0", 50) + behind
		digits += strings.Repeat("1", (8-len(digits)%8)%8)
		wantGet(t, p, piece(digits).Text, 6, nil, 0, api.ErrGroups)
	}
	wantGet(t, p, piece("111111"+strings.Repeat("0", 50)).Text, 6, nil, 0, api.ErrGroups)
	wantGet(t, p, piece("1111111"+strings.Repeat("0", 49)).Text, 7, nil, 0, api.ErrShort)
	wantGet(t, p, piece(strings.Repeat("0", 40)+"11111111").Text, 0, nil, 0, api.ErrCode)
	wantGet(t, p, piece(strings.Repeat("0", 49)+"110 1111").Text, 0, append(make([]int, 49), 2), 52, api.OK)
	wantGet(t, p, piece(strings.Repeat("0", 50)+"110 111").Text, 0, nil, 0, api.ErrGroups)
	p.Picks = []int{0, 1}
	wantGet(t, p, piece(strings.Repeat("0", 50)+"101 111").Text, 0, nil, 0, api.ErrCode)
	wantGet(t, p, piece(strings.Repeat("0", 50)+"100 01 0").Text, 0, append(make([]int, 50), 0, 2), 55, api.OK)
	wantGet(t, p, piece(strings.Repeat("0", 50)+"100 000").Text, 0, nil, 0, api.ErrShort)
}

// P11.5: bits of all kinds.
func TestGetAsTheModel(t *testing.T) {
	c := chain(123)
	for range 3000 {
		p := c.plan(2+c.next()%5, 1+c.next()%4, 3+c.next()%6)
		text := c.text(c.next() % 50)
		for _, at := range []int{0, c.next() % (8*len(text) + 1), -1} {
			want, wantTo, wantE := modelGet(p, row(text), at)
			wantGet(t, p, text, at, want, wantTo, wantE)
		}
	}
}

// P11.6: behind whatever bytes, behind bits that fill none, and with whatever bits behind; a list is read up to the first last symbol.
func TestGetOfPut(t *testing.T) {
	c := chain(124)
	for _, s := range someLists() {
		list := ended(s)
		p, _ := groups.Best(list, s.n)
		b, e := groups.Put(p, list)
		if e != api.OK {
			t.Fatal(int(e))
		}
		ahead := c.text(c.next() % 20)
		at := 8 * len(ahead)
		wantGet(t, p, ahead+b.Text, at, list, at+b.N, api.OK)
		wantGet(t, p, ahead+b.Text+c.text(3), at, list, at+b.N, api.OK)
		at = c.next() % (at + 1)
		wantGet(t, p, between(row(ahead)[:at], b, row(c.text(c.next()%4))), at, list, at+b.N, api.OK)
		first := c.next() % len(list)
		list[first] = s.n - 1
		cut := slices.Index(list, s.n-1) + 1
		b, _ = groups.Put(p, list)
		short, _ := modelPut(p, list[:cut])
		wantGet(t, p, b.Text, 0, list[:cut], len(short), api.OK)
	}
	for _, p := range somePlans() {
		n := len(p.Tables[0])
		p.Picks = p.Picks[:min(len(p.Picks), 100)]
		list := ended(source{c.skewed(50*len(p.Picks), n), n})
		b, _ := groups.Put(p, list)
		wantGet(t, p, b.Text, 0, list, b.N, api.OK)
		if last := len(p.Picks) - 1; last > 0 {
			p.Picks = p.Picks[:last]
			wantGet(t, p, b.Text, 0, nil, 0, api.ErrGroups)
		}
	}
}

// P11.5: as many symbols as there can be picks for, and one group more.
func TestGetOfTheLongestList(t *testing.T) {
	p := api.Plan{Tables: [][]int{{1, 2, 2}, {1, 2, 2}}, Picks: make([]int, 32767)}
	list := make([]int, 1638350)
	list[len(list)-1] = 2
	b, e := groups.Put(p, list)
	if b.N != 1638351 || e != api.OK {
		t.Fatal(b.N, int(e))
	}
	wantGet(t, p, b.Text, 0, list, b.N, api.OK)
	wantGet(t, p, strings.Repeat("\x00", 1638360/8), 0, nil, 0, api.ErrGroups)
	wantPut(t, p, append(list, 0), api.Bits{}, api.ErrGroups)
}

// Rule 4: what is handed in is not changed, nor its spare room; what is handed out is new. Rule 5: an answer does not hang on what was asked ahead of it.
func TestGetAlone(t *testing.T) {
	p := twoTables()
	room := []int{0, 1, 2, 9, 9}
	for range 2 {
		wantPut(t, p, room[:3], api.Bits{Text: "\x58", N: 5}, api.OK)
		wantSize(t, p, room[:3], len(modelShow(p))+5, api.OK)
		list, _, _ := groups.Get(p, "\x58", 0)
		clear(list[:cap(list)])
		wantPut(t, p, room, api.Bits{}, api.ErrSymbol)
		wantGet(t, p, "\x58", math.MaxInt, nil, 0, api.ErrArg)
		wantGet(t, p, "\x58", 0, []int{0, 1, 2}, 5, api.OK)
		if !same(p, twoTables()) || !slices.Equal(room, []int{0, 1, 2, 9, 9}) {
			t.Fatal(p, room)
		}
	}
}
