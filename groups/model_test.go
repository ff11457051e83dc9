package groups_test

import (
	"fmt"
	"math"
	"math/big"
	"slices"
	"strings"
	"testing"

	"kist/api"
	"kist/bits"
	"kist/lengths"
)

// The model: each symbol tells its group by its number in the list, a table's place is how many were picked later, bits are spelled as digits.

// modelCheck tells whether lengths may be, in fractions.
func modelCheck(l []int) bool {
	sum := new(big.Rat)
	for _, k := range l {
		if k < 1 || k > 20 {
			return false
		}
		sum.Add(sum, big.NewRat(1, 1<<k))
	}
	return len(l) > 1 && len(l) < 259 && sum.Cmp(big.NewRat(1, 1)) <= 0
}

// modelListMayBe tells whether a list may be for n symbols.
func modelListMayBe(list []int, n int) bool {
	for _, s := range list {
		if s < 0 || s >= n {
			return false
		}
	}
	return n > 2 && n < 259 && len(list) > 0 && len(list) <= 1638350
}

// modelMayBe tells whether a plan may be.
func modelMayBe(p api.Plan) bool {
	for _, l := range p.Tables {
		if len(l) < 3 || len(l) > 258 || len(l) != len(p.Tables[len(p.Tables)-1]) || !modelCheck(l) {
			return false
		}
	}
	for _, pick := range p.Picks {
		if pick < 0 || pick > len(p.Tables)-1 {
			return false
		}
	}
	return len(p.Tables) > 1 && len(p.Tables) < 7 && len(p.Picks) > 0 && len(p.Picks) < 32768
}

func modelTables(m int) (int, api.Errno) {
	if m <= 0 {
		return 0, api.ErrArg
	}
	tables := 2
	for _, edge := range []int{200, 600, 1200, 2400} {
		if m >= edge {
			tables++
		}
	}
	return tables, api.OK
}

// modelGroups tells how many groups a list has.
func modelGroups(list []int) int {
	n := 0
	for i := range list {
		if i%50 == 0 {
			n++
		}
	}
	return n
}

// modelCosts tells for each symbol what it costs at first in each table.
func modelCosts(tables, n int) [][]int {
	var costs [][]int
	for s := range n {
		var row []int
		for table := range tables {
			if table*n <= s*tables && s*tables < (table+1)*n {
				row = append(row, 1)
			} else {
				row = append(row, 15)
			}
		}
		costs = append(costs, row)
	}
	return costs
}

// modelPicks adds up what each group costs in each table.
func modelPicks(costs [][]int, list []int, tables int) []int {
	sums := make([][]int, modelGroups(list))
	for i, s := range list {
		k := i / 50
		sums[k] = append(sums[k], make([]int, tables-len(sums[k]))...)
		for table, cost := range costs[s] {
			sums[k][table] += cost
		}
	}
	var picks []int
	for _, row := range sums {
		picks = append(picks, slices.Index(row, slices.Min(row)))
	}
	return picks
}

func modelChoose(list []int, n int) (api.Plan, api.Errno) {
	if !modelListMayBe(list, n) {
		return api.Plan{}, api.ErrArg
	}
	tables, _ := modelTables(len(list))
	costs := modelCosts(tables, n)
	var p api.Plan
	for round := 1; round <= 4; round++ {
		p = api.Plan{Picks: modelPicks(costs, list, tables)}
		for table := range tables {
			weights := make([]int, n)
			for i, s := range list {
				if p.Picks[i/50] == table {
					weights[s]++
				}
			}
			l, _ := lengths.Make(weights, 17)
			for s := range n {
				costs[s][table] = l[s]
			}
			p.Tables = append(p.Tables, l)
		}
	}
	return p, api.OK
}

func modelFlat(list []int, n int) (api.Plan, api.Errno) {
	if !modelListMayBe(list, n) {
		return api.Plan{}, api.ErrArg
	}
	weights := make([]int, n)
	for _, s := range list {
		weights[s]++
	}
	l, _ := lengths.Flat(weights)
	return api.Plan{Tables: [][]int{l, l}, Picks: make([]int, modelGroups(list))}, api.OK
}

// modelSize adds up what digits each part has.
func modelSize(p api.Plan, list []int) int {
	size := len(modelShow(p))
	for i, s := range list {
		size += p.Tables[p.Picks[i/50]][s]
	}
	return size
}

func modelBest(list []int, n int) (api.Plan, api.Errno) {
	chosen, e := modelChoose(list, n)
	if e != api.OK {
		return chosen, e
	}
	flat, _ := modelFlat(list, n)
	if modelSize(chosen, list) <= modelSize(flat, list) {
		return chosen, api.OK
	}
	return flat, api.OK
}

// ages tells for each table when it was picked last, ahead of all picks: as if they had been picked from the last to the first.
func ages(tables int) []int {
	var l []int
	for table := range tables {
		l = append(l, -table)
	}
	return l
}

// placeOf tells how many tables were picked later than this one.
func placeOf(last []int, table int) int {
	n := 0
	for _, when := range last {
		if when > last[table] {
			n++
		}
	}
	return n
}

// modelShow spells a plan that may be.
func modelShow(p api.Plan) string {
	var b strings.Builder
	fmt.Fprintf(&b, "%03b%015b", len(p.Tables), len(p.Picks))
	last := ages(len(p.Tables))
	for k, table := range p.Picks {
		b.WriteString(strings.Repeat("1", placeOf(last, table)) + "0")
		last[table] = k + 1
	}
	for _, l := range p.Tables {
		b.WriteString(modelLengths(l))
	}
	return b.String()
}

// modelLengths spells a table of lengths.
func modelLengths(l []int) string {
	digits := fmt.Sprintf("%05b", l[0])
	for s := range l {
		by := l[s] - l[max(s-1, 0)]
		digits += strings.Repeat("10", max(by, 0)) + strings.Repeat("11", max(-by, 0)) + "0"
	}
	return digits
}

// cutter cuts words off digits; from the first one that is not there on it has an error.
type cutter struct {
	rest string
	e    api.Errno
}

func (c *cutter) cut(n int) string {
	if c.e == api.OK && len(c.rest) < n {
		c.e = api.ErrShort
	}
	if c.e != api.OK {
		return ""
	}
	word := c.rest[:n]
	c.rest = c.rest[n:]
	return word
}

// refuse gives up where something is wrong, unless that is so already.
func (c *cutter) refuse(wrong bool, e api.Errno) {
	if wrong && c.e == api.OK {
		c.e = e
	}
}

func (c *cutter) place(tables int) int {
	n := 0
	for c.cut(1) == "1" {
		n++
		c.refuse(n == tables, api.ErrGroups)
	}
	return n
}

func (c *cutter) lengths(n int) []int {
	length := number(c.cut(5))
	c.refuse(length < 1 || length > 20, api.ErrLengths)
	var l []int
	for c.e == api.OK && len(l) < n {
		if c.cut(1) == "0" {
			l = append(l, length)
			continue
		}
		length += 1 - 2*number(c.cut(1))
		c.refuse(length < 1 || length > 20, api.ErrLengths)
	}
	c.refuse(!modelCheck(l), api.ErrLengths)
	return l
}

// modelTake reads a plan for n symbols out of digits.
func modelTake(digits string, at, n int) (api.Plan, int, api.Errno) {
	if at < 0 || at > len(digits) || n < 3 || n > 258 {
		return api.Plan{}, 0, api.ErrArg
	}
	c := &cutter{rest: digits[at:]}
	tables := number(c.cut(3))
	c.refuse(tables < 2 || tables > 6, api.ErrGroups)
	picks := number(c.cut(15))
	c.refuse(picks < 1, api.ErrGroups)
	var p api.Plan
	last := ages(tables)
	for k := 1; k <= picks && c.e == api.OK; k++ {
		place := c.place(tables)
		for table := range tables {
			if c.e == api.OK && placeOf(last, table) == place {
				p.Picks, last[table] = append(p.Picks, table), k
				break
			}
		}
	}
	for len(p.Tables) < tables && c.e == api.OK {
		p.Tables = append(p.Tables, c.lengths(n))
	}
	if c.e != api.OK {
		return api.Plan{}, 0, c.e
	}
	return p, len(digits) - len(c.rest), api.OK
}

// modelCodes spells the codes of lengths that may be.
func modelCodes(l []int) []string {
	codes := make([]string, len(l))
	code, ahead := -1, 0
	for k := 1; k <= 20; k++ {
		for s := range l {
			if l[s] == k {
				code = (code + 1) << (k - ahead)
				codes[s], ahead = fmt.Sprintf("%0*b", k, code), k
			}
		}
	}
	return codes
}

// modelAllCodes spells the codes of each table.
func modelAllCodes(p api.Plan) [][]string {
	var l [][]string
	for _, table := range p.Tables {
		l = append(l, modelCodes(table))
	}
	return l
}

// modelPut spells symbols.
func modelPut(p api.Plan, list []int) (string, api.Errno) {
	if !modelMayBe(p) || modelGroups(list) > len(p.Picks) {
		return "", api.ErrGroups
	}
	codes := modelAllCodes(p)
	var b strings.Builder
	for i, s := range list {
		if s < 0 || s > len(p.Tables[0])-1 {
			return "", api.ErrSymbol
		}
		b.WriteString(codes[p.Picks[i/50]][s])
	}
	return b.String(), api.OK
}

// modelDecode reads the symbol whose code stands first.
func modelDecode(codes []string, rest string) (int, api.Errno) {
	for n := 1; n <= len(rest); n++ {
		begins := false
		for s, code := range codes {
			if code == rest[:n] {
				return s, api.OK
			}
			begins = begins || strings.HasPrefix(code, rest[:n])
		}
		if !begins {
			return 0, api.ErrCode
		}
	}
	return 0, api.ErrShort
}

// modelGet reads symbols.
func modelGet(p api.Plan, digits string, at int) ([]int, int, api.Errno) {
	if !modelMayBe(p) {
		return nil, 0, api.ErrGroups
	}
	if at < 0 || at > len(digits) {
		return nil, 0, api.ErrArg
	}
	codes := modelAllCodes(p)
	var list []int
	for {
		if len(list) >= 50*len(p.Picks) {
			return nil, 0, api.ErrGroups
		}
		table := p.Picks[len(list)/50]
		s, e := modelDecode(codes[table], digits[at:])
		if e != api.OK {
			return nil, 0, e
		}
		list, at = append(list, s), at+len(codes[table][s])
		if s == len(p.Tables[0])-1 {
			return list, at, api.OK
		}
	}
}

// row spells the bits of a text as digits.
func row(text string) string {
	var b strings.Builder
	for i := range len(text) {
		fmt.Fprintf(&b, "%08b", text[i])
	}
	return b.String()
}

// number reads digits.
func number(digits string) int {
	v := 0
	for i := range len(digits) {
		v = 2*v + int(digits[i]-'0')
	}
	return v
}

// piece makes the bits that a row spells, in groups that blanks may part.
func piece(row string) api.Bits {
	row = strings.ReplaceAll(row, " ", "")
	full := row + strings.Repeat("0", (8-len(row)%8)%8)
	var b strings.Builder
	for i := 0; i < len(full); i += 8 {
		b.WriteByte(byte(number(full[i : i+8])))
	}
	return api.Bits{Text: b.String(), N: len(row)}
}

// between tells the text of bits with others ahead of and behind them.
func between(ahead string, b api.Bits, behind string) string {
	j, _ := bits.Join(piece(ahead), b, piece(behind))
	return j.Text
}

// chain is a plain rule for numbers that look mixed, the same at each run.
type chain uint64

func (c *chain) next() int {
	*c = *c*6364136223846793005 + 1442695040888963407
	return int(*c >> 33)
}

// text is n bytes.
func (c *chain) text(n int) string {
	var b strings.Builder
	for range n {
		b.WriteByte(byte(c.next()))
	}
	return b.String()
}

// list is n numbers from low to high.
func (c *chain) list(n, low, high int) []int {
	var l []int
	for range n {
		l = append(l, low+c.next()%(high-low+1))
	}
	return l
}

// skewed is m symbols of n, the lesser ones oftener.
func (c *chain) skewed(m, n int) []int {
	var l []int
	for range m {
		l = append(l, c.next()%(1+c.next()%(1+c.next()%n)))
	}
	return l
}

// parted is m symbols of n, those of each group from a part of their own.
func (c *chain) parted(m, n int) []int {
	var l []int
	part, width := 0, max(1, n/8)
	for i := range m {
		if i%50 == 0 {
			part = c.next() % n
		}
		l = append(l, (part+c.next()%(1+c.next()%width))%n)
	}
	return l
}

// mix puts numbers in another order.
func (c *chain) mix(l []int) []int {
	out := slices.Clone(l)
	for i := range out {
		k := c.next() % len(out)
		out[i], out[k] = out[k], out[i]
	}
	return out
}

// lengths are such as may be for n symbols, some of them with room left.
func (c *chain) lengths(n int) []int {
	weights := c.list(n, 0, 1<<20)
	for s := range weights {
		weights[s] >>= c.next() % 21
	}
	l, _ := lengths.Make(weights, 12+c.next()%9)
	if c.next()%2 == 0 {
		for s := range l {
			l[s] += c.next() % (21 - l[s])
		}
	}
	return l
}

// plan is one that may be.
func (c *chain) plan(tables, picks, n int) api.Plan {
	p := api.Plan{Picks: c.list(picks, 0, tables-1)}
	for range tables {
		p.Tables = append(p.Tables, c.lengths(n))
	}
	return p
}

// source is a list for n symbols.
type source struct {
	list []int
	n    int
}

// someLists are those that each call is held against the model with: of each edge's length and number of symbols, mixed, skewed, parted, and of one symbol.
func someLists() []source {
	c := chain(111)
	var l []source
	for _, n := range []int{3, 4, 5, 6, 7, 13, 50, 100, 255, 256, 257, 258} {
		for _, m := range []int{1, 2, 49, 50, 51, 99, 100, 101, 199, 200, 201, 599, 600, 1199, 1200, 2399, 2400, 2401, 6000} {
			l = append(l, source{c.list(m, 0, n-1), n}, source{c.skewed(m, n), n}, source{c.parted(m, n), n}, source{slices.Repeat([]int{c.next() % n}, m), n})
		}
	}
	for n := 3; n <= 258; n++ {
		l = append(l, source{c.parted(1+c.next()%3000, n), n}, source{[]int{n - 1}, n}, source{[]int{0}, n})
	}
	return l
}

// ended is a list whose last symbol alone is the last of n.
func ended(s source) []int {
	list := slices.Clone(s.list)
	for i, v := range list {
		if v == s.n-1 {
			list[i] = i % (s.n - 1)
		}
	}
	list[len(list)-1] = s.n - 1
	return list
}

// somePlans are those that each call is held against the model with: of each number of tables, few and many symbols and picks.
func somePlans() []api.Plan {
	c := chain(112)
	var l []api.Plan
	for tables := 2; tables <= 6; tables++ {
		for _, n := range []int{3, 4, 17, 256, 257, 258} {
			for _, picks := range []int{1, 2, 3, 20, 200} {
				l = append(l, c.plan(tables, picks, n))
			}
		}
		l = append(l, c.plan(tables, 32766, 3), c.plan(tables, 32767, 5))
		all := api.Plan{Tables: slices.Repeat([][]int{{1, 2, 2}}, tables)}
		for k := range 40 {
			all.Picks = append(all.Picks, (tables-1)*(k+1)%tables)
		}
		l = append(l, all)
	}
	return l
}

// wrongNumbers are numbers that lie outside the range from low, which is not below 0, to high.
func wrongNumbers(low, high int) []int {
	l := []int{-1, -2, -high - 1, -8, -256, high + 1, high + 2, 2*high + 2, high + 256, 1 << 31, 1 << 32, 1<<32 + low, 1<<32 + high, -1 << 32, -1<<32 + high, math.MinInt32, math.MaxInt32, math.MinInt, math.MinInt + 1, math.MinInt + high, math.MaxInt - 1, math.MaxInt}
	for v := range low {
		l = append(l, v)
	}
	return l
}

// wrongPlans are those that may not be, each for one reason.
func wrongPlans() []api.Plan {
	good, one := []int{1, 2, 2}, []int{0}
	two := [][]int{good, good}
	l := []api.Plan{{}, {Tables: two}, {Picks: one}, {Tables: two, Picks: []int{}}, {Tables: [][]int{}, Picks: one}, {Tables: [][]int{nil, nil}, Picks: one}, {Tables: [][]int{{}, {}}, Picks: one}}
	for _, tables := range []int{1, 7, 8, 9, 64, 258} {
		l = append(l, api.Plan{Tables: slices.Repeat([][]int{good}, tables), Picks: one})
	}
	for _, n := range []int{1, 2, 259, 260, 512} {
		l = append(l, api.Plan{Tables: slices.Repeat([][]int{slices.Repeat([]int{20}, n)}, 2), Picks: one})
	}
	for _, n := range []int{32768, 32769, 65535, 65536, 65537} {
		l = append(l, api.Plan{Tables: two, Picks: make([]int, n)})
	}
	for _, table := range [][]int{nil, {}, {1, 1}, {20, 20}, {2, 2, 2, 2}, {1, 2, 3, 3}, {1, 1, 20}, {1, 1, 1}, {1, 2, 0}, {0, 0, 0}, {-1, 2, 2}, {21, 2, 2}, {1, 2, 1 << 32}, {math.MinInt, 1, 2}, {1, 2, math.MaxInt}} {
		l = append(l, api.Plan{Tables: [][]int{table, good}, Picks: one}, api.Plan{Tables: [][]int{good, table}, Picks: one}, api.Plan{Tables: [][]int{good, good, table, good}, Picks: one})
	}
	for _, pick := range wrongNumbers(0, 1) {
		l = append(l, api.Plan{Tables: two, Picks: []int{pick}}, api.Plan{Tables: two, Picks: []int{0, 1, pick}}, api.Plan{Tables: two, Picks: []int{pick, 1, 0}}, api.Plan{Tables: two, Picks: []int{0, pick, 1}})
	}
	for tables := 2; tables <= 6; tables++ {
		l = append(l, api.Plan{Tables: slices.Repeat([][]int{good}, tables), Picks: []int{tables - 1, tables}})
	}
	return l
}

// clone is a plan that shares no memory with the other.
func clone(p api.Plan) api.Plan {
	out := api.Plan{Picks: slices.Clone(p.Picks)}
	for _, l := range p.Tables {
		out.Tables = append(out.Tables, slices.Clone(l))
	}
	return out
}

// wreck writes over all that an answered plan has, spare room, too.
func wreck(p api.Plan) {
	for _, l := range p.Tables {
		clear(l[:cap(l)])
	}
	clear(p.Tables[:cap(p.Tables)])
	clear(p.Picks[:cap(p.Picks)])
}

// same tells whether two plans are one.
func same(a, b api.Plan) bool {
	return slices.EqualFunc(a.Tables, b.Tables, slices.Equal[[]int]) && slices.Equal(a.Picks, b.Picks)
}

// short tells the beginning of what may be long.
func short(v any) string {
	spelled := fmt.Sprint(v)
	return spelled[:min(len(spelled), 400)]
}

// wantPlan tells what a call answers against what it should.
func wantPlan(t *testing.T, name string, got api.Plan, e api.Errno, want api.Plan, wantE api.Errno) {
	t.Helper()
	if !same(got, want) || e != wantE {
		t.Fatalf("%s = %s, %d, not %s, %d", name, short(got), int(e), short(want), int(wantE))
	}
}
