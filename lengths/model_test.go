package lengths_test

import (
	"math"
	"math/big"
	"slices"

	"kist/api"
)

// The model: trees as lists of the symbols that they are made of, and sums in numbers that have no range.

func modelWeigh(w []int) bool {
	for _, v := range w {
		if v < 0 || v > 1073741824 {
			return false
		}
	}
	return len(w) > 1 && len(w) < 259
}

// bush is a tree: its weight, its number, and the symbols that are in it.
type bush struct {
	weight, number int
	symbols        []int
}

// pull takes the first tree out of those that are left.
func pull(left []bush) (bush, []bush) {
	at := 0
	for i, b := range left {
		if b.weight < left[at].weight || b.weight == left[at].weight && b.number < left[at].number {
			at = i
		}
	}
	b := left[at]
	return b, slices.Delete(left, at, at+1)
}

// modelJoin makes each symbol that is in a tree that is made a bit longer.
func modelJoin(w []int) []int {
	var left []bush
	for s, v := range w {
		left = append(left, bush{v, s, []int{s}})
	}
	l := make([]int, len(w))
	for number := len(w); len(left) > 1; number++ {
		var a, b bush
		a, left = pull(left)
		b, left = pull(left)
		both := bush{a.weight + b.weight, number, slices.Concat(a.symbols, b.symbols)}
		for _, s := range both.symbols {
			l[s]++
		}
		left = append(left, both)
	}
	return l
}

// asOne are weights of which those of 0 are 1.
func asOne(w []int) []int {
	out := slices.Clone(w)
	for i, v := range out {
		if v == 0 {
			out[i] = 1
		}
	}
	return out
}

func modelMake(w []int, most int) ([]int, api.Errno) {
	if !modelWeigh(w) || most < 12 || most > 20 {
		return nil, api.ErrArg
	}
	w = asOne(w)
	for {
		l := modelJoin(w)
		if !slices.ContainsFunc(l, func(v int) bool { return v > most }) {
			return l, api.OK
		}
		for i, v := range w {
			w[i] = (v-v%2)/2 + 1
		}
	}
}

// modelFlat counts for each symbol how many stand ahead of it.
func modelFlat(w []int) ([]int, api.Errno) {
	if !modelWeigh(w) {
		return nil, api.ErrArg
	}
	w = asOne(w)
	k, power := 0, 1
	for power*2 <= len(w) {
		k, power = k+1, power*2
	}
	var l []int
	for s, v := range w {
		above := 0
		for other, x := range w {
			if x > v || x == v && other < s {
				above++
			}
		}
		if above < 2*power-len(w) {
			l = append(l, k)
		} else {
			l = append(l, k+1)
		}
	}
	return l, api.OK
}

// share is the part of all codes that lengths take: nil, if they are not 2 to 258 from 1 to 20.
func share(l []int) *big.Rat {
	if len(l) < 2 || len(l) > 258 {
		return nil
	}
	sum := new(big.Rat)
	for _, v := range l {
		if v < 1 || v > 20 {
			return nil
		}
		sum.Add(sum, big.NewRat(1, 1<<v))
	}
	return sum
}

func modelCheck(l []int) api.Errno {
	if sum := share(l); sum == nil || sum.Cmp(big.NewRat(1, 1)) > 0 {
		return api.ErrLengths
	}
	return api.OK
}

func modelFull(l []int) bool {
	sum := share(l)
	return sum != nil && sum.Cmp(big.NewRat(1, 1)) == 0
}

func modelCost(w, l []int) (int, api.Errno) {
	if !modelWeigh(w) || len(l) != len(w) || slices.ContainsFunc(l, func(v int) bool { return v < 0 || v > 20 }) {
		return 0, api.ErrArg
	}
	sum := new(big.Int)
	for s := range w {
		sum.Add(sum, new(big.Int).Mul(big.NewInt(int64(w[s])), big.NewInt(int64(l[s]))))
	}
	return int(sum.Int64()), api.OK
}

// leastCost is what the best lengths up to 20 cost: the coins of each length are paired with those of the next shorter one, and as many of the cheapest are taken as all codes need.
func leastCost(w []int) int {
	coins := slices.Sorted(slices.Values(asOne(w)))
	row := coins
	for range 19 {
		var pairs []int
		for i := 1; i < len(row); i += 2 {
			pairs = append(pairs, row[i-1]+row[i])
		}
		row = slices.Sorted(slices.Values(slices.Concat(coins, pairs)))
	}
	sum := 0
	for _, v := range row[:2*len(w)-2] {
		sum += v
	}
	return sum
}

// rows are all rows of n numbers from low to high.
func rows(low, high, n int) [][]int {
	l := [][]int{nil}
	for range n {
		var longer [][]int
		for _, row := range l {
			for v := low; v <= high; v++ {
				longer = append(longer, append(slices.Clone(row), v))
			}
		}
		l = longer
	}
	return l
}

// chain is a plain rule for numbers that look mixed, the same at each run.
type chain uint64

func (c *chain) next() int {
	*c = *c*6364136223846793005 + 1442695040888963407
	return int(*c >> 33)
}

// weights are n of them from 0 to high.
func (c *chain) weights(n, high int) []int {
	var w []int
	for range n {
		w = append(w, c.next()%(high+1))
	}
	return w
}

// fibonacci are weights of which each tree that is made is joined to the next one: n symbols have lengths up to n - 1.
func fibonacci(n int) []int {
	w := []int{1, 1}
	for len(w) < n {
		w = append(w, w[len(w)-1]+w[len(w)-2])
	}
	return w[:n]
}

// powers are weights of which each is twice the one ahead of it, the first one twice.
func powers(n int) []int {
	w := []int{1}
	for v := 1; len(w) < n; v *= 2 {
		w = append(w, v)
	}
	return w
}

func turned(w []int) []int {
	out := slices.Clone(w)
	slices.Reverse(out)
	return out
}

// someWeights are those that each call is held against the model with.
func someWeights() [][]int {
	l := [][]int{{1, 1}, {0, 0}, {0, 1}, {1 << 30, 1 << 30}, {0, 1 << 30}, {1, 9, 1}, {0, 0, 0, 0}, {5, 1, 1, 1}}
	for n := 2; n <= 5; n++ {
		l = append(l, rows(0, 3, n)...)
	}
	for n := 2; n <= 258; n++ {
		l = append(l, slices.Repeat([]int{n % 3}, n))
	}
	for n := 2; n <= 44; n++ {
		l = append(l, fibonacci(n), turned(fibonacci(n)))
	}
	for n := 2; n <= 32; n++ {
		l = append(l, powers(n), turned(powers(n)), slices.Concat(powers(n), fibonacci(n)))
	}
	c := chain(81)
	for _, n := range []int{2, 3, 4, 7, 8, 9, 31, 32, 33, 100, 127, 128, 129, 255, 256, 257, 258} {
		for _, high := range []int{1, 2, 3, 9, 100, 5000, 1 << 20, 1 << 30} {
			l = append(l, c.weights(n, high))
		}
		steep, square := c.weights(n, 1), c.weights(n, 1)
		for s := range n {
			steep[s] = 1 << (c.next() % 31) >> (c.next() % 31)
			square[s] = s * s
		}
		l = append(l, steep, square, turned(square), slices.Repeat([]int{1 << 30}, n))
	}
	for n := 40; n <= 258; n += 109 {
		l = append(l, slices.Concat(make([]int, n-31), powers(31)), slices.Concat(powers(32), slices.Repeat([]int{1 << 30}, n-32)))
	}
	return l
}

// wrongWeights are those that may not be.
func wrongWeights() [][]int {
	l := [][]int{nil, {}, {0}, {1}, {1 << 30}, {-1}, make([]int, 259), make([]int, 260), make([]int, 516), make([]int, 1<<16+2), slices.Repeat([]int{1}, 259)}
	for _, v := range []int{-1, -2, -1 << 30, 1<<30 + 1, 1<<30 + 2, 1 << 31, 1 << 32, 1<<32 + 1, -1 << 32, -1<<32 + 1, math.MinInt32, math.MinInt, math.MinInt + 1, math.MaxInt, math.MaxInt - 1} {
		l = append(l, []int{v, 1}, []int{1, v}, []int{1, v, 1, 1}, []int{v, v}, append(make([]int, 257), v))
	}
	return l
}
