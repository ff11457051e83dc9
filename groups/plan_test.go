package groups_test

import (
	"fmt"
	"math"
	"slices"
	"testing"

	"kist/api"
	"kist/groups"
	"kist/lengths"
)

// P11.1
func TestTables(t *testing.T) {
	for _, c := range [][2]int{{1, 2}, {199, 2}, {200, 3}, {599, 3}, {600, 4}, {1199, 4}, {1200, 5}, {2399, 5}, {2400, 6}, {1638350, 6}, {1638351, 6}, {math.MaxInt32, 6}, {1 << 32, 6}, {1<<32 + 5, 6}, {math.MaxInt, 6}} {
		if n, e := groups.Tables(c[0]); n != c[1] || e != api.OK {
			t.Errorf("Tables(%d) = %d, %d, not %d", c[0], n, int(e), c[1])
		}
	}
	for m := -300; m <= 5000; m++ {
		want, wantE := modelTables(m)
		if n, e := groups.Tables(m); n != want || e != wantE {
			t.Fatalf("Tables(%d) = %d, %d, not %d, %d", m, n, int(e), want, int(wantE))
		}
	}
	for _, m := range []int{0, -1, math.MinInt, math.MinInt + 300, math.MinInt32, -1 << 32, -1<<32 + 300} {
		if n, e := groups.Tables(m); n != 0 || e != api.ErrArg {
			t.Errorf("Tables(%d) = %d, %d", m, n, int(e))
		}
	}
}

// wantAsModel tells what Choose, Flat and Best answer against what the model does.
func wantAsModel(t *testing.T, list []int, n int) {
	t.Helper()
	name := fmt.Sprintf("(%d symbols %v ..; %d)", len(list), list[:min(len(list), 50)], n)
	want, wantE := modelChoose(list, n)
	got, e := groups.Choose(list, n)
	wantPlan(t, "Choose"+name, got, e, want, wantE)
	want, wantE = modelFlat(list, n)
	got, e = groups.Flat(list, n)
	wantPlan(t, "Flat"+name, got, e, want, wantE)
	want, wantE = modelBest(list, n)
	got, e = groups.Best(list, n)
	wantPlan(t, "Best"+name, got, e, want, wantE)
}

// P11.2, P11.3
func TestPlansAsTheModel(t *testing.T) {
	for _, s := range someLists() {
		wantAsModel(t, s.list, s.n)
	}
	c := chain(113)
	for range 400 {
		m, n := 1+c.next()%700, 3+c.next()%30
		wantAsModel(t, c.skewed(m, n), n)
		wantAsModel(t, c.parted(m, n), n)
	}
}

// P11.2: by hand: symbols 0 and 1 are cheap in the first table, 2 is in the second one; what two tables cost alike goes to the first.
func TestChooseByHand(t *testing.T) {
	p, e := groups.Choose([]int{0, 1, 2}, 3)
	wantPlan(t, "Choose(0 1 2)", p, e, api.Plan{Tables: [][]int{{2, 2, 1}, {2, 2, 1}}, Picks: []int{0}}, api.OK)
	p, e = groups.Choose([]int{2}, 3)
	wantPlan(t, "Choose(2)", p, e, api.Plan{Tables: [][]int{{2, 2, 1}, {2, 2, 1}}, Picks: []int{0}}, api.OK)
	p, e = groups.Choose([]int{2, 2, 0, 2}, 3)
	wantPlan(t, "Choose(2 2 0 2)", p, e, api.Plan{Tables: [][]int{{2, 2, 1}, {2, 2, 1}}, Picks: []int{0}}, api.OK)
	list := slices.Concat(slices.Repeat([]int{0, 1}, 25), slices.Repeat([]int{2}, 50), slices.Repeat([]int{1, 1, 0, 1, 1}, 10), []int{2, 2, 1})
	p, e = groups.Choose(list, 3)
	wantPlan(t, "Choose of four groups", p, e, api.Plan{Tables: [][]int{{2, 1, 2}, {2, 2, 1}}, Picks: []int{0, 1, 0, 1}}, api.OK)
}

// P11.2: a table that no group picks has the lengths of symbols that stand nowhere.
func TestChooseOfTablesThatNobodyPicks(t *testing.T) {
	for m := 1; m <= 3000; m += 37 {
		for _, n := range []int{3, 5, 16, 258} {
			p, e := groups.Choose(slices.Repeat([]int{1}, m), n)
			none, _ := lengths.Make(make([]int, n), 17)
			weights := make([]int, n)
			weights[1] = m
			all, _ := lengths.Make(weights, 17)
			want := api.Plan{Picks: make([]int, (m+49)/50)}
			tables, _ := modelTables(m)
			for range tables {
				want.Tables = append(want.Tables, none)
			}
			want.Tables[p.Picks[0]] = all
			for k := range want.Picks {
				want.Picks[k] = p.Picks[0]
			}
			wantPlan(t, fmt.Sprint("Choose of ones ", m, n), p, e, want, api.OK)
		}
	}
}

// P11.2: no code has more than 17 bits, though more would be best.
func TestChooseOfLongCodes(t *testing.T) {
	c := chain(114)
	for n := 5; n <= 12; n++ {
		var list []int
		for s, a, b := 0, 258, 258; s < n; s, a, b = s+1, b, a+b {
			list = append(list, slices.Repeat([]int{s}, a)...)
		}
		list = c.mix(list)
		weights := make([]int, 258)
		for _, s := range list {
			weights[s]++
		}
		free, _ := lengths.Make(weights, 20)
		made, _ := lengths.Make(weights, 17)
		p, e := groups.Choose(list, 258)
		if e != api.OK || slices.Max(free) != 8+n || slices.Max(made) > 17 || !slices.Equal(p.Tables[0], made) {
			t.Fatal(n, slices.Max(free), slices.Max(made), p.Tables[0], int(e))
		}
		wantAsModel(t, list, 258)
	}
}

// P11.3
func TestFlatOfTheExample(t *testing.T) {
	p, e := groups.Flat([]int{0, 1, 2}, 3)
	wantPlan(t, "Flat(0 1 2)", p, e, api.Plan{Tables: [][]int{{1, 2, 2}, {1, 2, 2}}, Picks: []int{0}}, api.OK)
	p, e = groups.Flat(slices.Repeat([]int{2, 0, 2}, 17), 3)
	wantPlan(t, "Flat(2 0 2 ..)", p, e, api.Plan{Tables: [][]int{{2, 2, 1}, {2, 2, 1}}, Picks: []int{0, 0}}, api.OK)
}

// P11.3, P11.7: Best is one of the two, of one size Choose; each of them is the better one somewhere.
func TestBestOfBoth(t *testing.T) {
	counts := map[string]int{}
	for _, s := range someLists() {
		chosen, _ := groups.Choose(s.list, s.n)
		flat, _ := groups.Flat(s.list, s.n)
		best, _ := groups.Best(s.list, s.n)
		a, b, c := modelSize(chosen, s.list), modelSize(flat, s.list), modelSize(best, s.list)
		if c > b || c > a || !modelMayBe(best) || !modelMayBe(chosen) || !modelMayBe(flat) {
			t.Fatal(s.n, len(s.list), a, b, c)
		}
		switch {
		case a < b && same(best, chosen):
			counts["chosen"]++
		case a > b && same(best, flat):
			counts["flat"]++
		case a == b && same(best, chosen) && !same(chosen, flat):
			counts["alike"]++
		case a == b && same(best, chosen):
		default:
			t.Fatal(s.n, len(s.list), a, b, c)
		}
	}
	if counts["chosen"] < 50 || counts["flat"] < 50 || counts["alike"] < 3 {
		t.Error(counts)
	}
}

// P11.2, P11.3: lists that may not be: of no symbols, of too many, with one that is not there, wherever it stands; and numbers of symbols.
func TestPlansRefuse(t *testing.T) {
	refused := func(list []int, n int) {
		t.Helper()
		for _, call := range []func([]int, int) (api.Plan, api.Errno){groups.Choose, groups.Flat, groups.Best} {
			if p, e := call(list, n); e != api.ErrArg || p.Tables != nil || p.Picks != nil {
				t.Fatalf("%d symbols %s; %d: %s, %d", len(list), short(list), n, short(p), int(e))
			}
		}
	}
	for _, n := range append(wrongNumbers(3, 258), 259) {
		for _, list := range [][]int{nil, {}, {0}, {0, 1}, {0, 0, 2}, {-1}, {n}} {
			refused(list, n)
		}
	}
	for _, n := range []int{3, 4, 100, 257, 258} {
		refused(nil, n)
		refused([]int{}, n)
		for _, s := range append(wrongNumbers(0, n-1), 258, 259) {
			for _, list := range [][]int{{s}, {0, s}, {s, 0}, {0, n - 1, s, 1}, append(make([]int, 120), s), append([]int{s}, make([]int, 120)...)} {
				refused(list, n)
			}
		}
	}
	refused(make([]int, 1638351), 3)
	refused(make([]int, 1638400), 258)
	refused(make([]int, 1638351+1<<20), 258)
}

// P11.2, P11.3, P11.5: the longest list.
func TestPlansOfTheLongestList(t *testing.T) {
	c := chain(115)
	list := c.parted(1638350, 258)
	wantAsModel(t, list, 258)
	p, _ := groups.Best(list, 258)
	size, e := groups.Size(p, list)
	if size != modelSize(p, list) || e != api.OK || len(p.Picks) != 32767 {
		t.Error(size, int(e), len(p.Picks))
	}
	if _, e := groups.Size(p, append(list, 0)); e != api.ErrGroups {
		t.Error(int(e))
	}
}

// Rule 4: what is handed in is not changed, nor its spare room; what is handed out is new, and so is each list in it. Rule 5: an answer does not hang on what was asked ahead of it.
func TestPlansAlone(t *testing.T) {
	c := chain(116)
	room := c.parted(700, 20)
	before := slices.Clone(room)
	list := room[:650]
	for _, call := range []func([]int, int) (api.Plan, api.Errno){groups.Choose, groups.Flat, groups.Best} {
		want, _ := call(list, 20)
		kept := clone(want)
		for range 2 {
			p, e := call(list, 20)
			wantPlan(t, "again", p, e, want, api.OK)
			for table := range p.Tables {
				others := clone(p)
				clear(p.Tables[table][:cap(p.Tables[table])])
				clear(others.Tables[table])
				if !same(p, others) {
					t.Fatal("two tables share memory", table)
				}
			}
			wreck(p)
			if _, e := call(list, 2); e != api.ErrArg {
				t.Fatal(int(e))
			}
			call(list[:60], 258)
		}
		if !same(want, kept) || !slices.Equal(room, before) {
			t.Fatal("changed")
		}
	}
}
