package zrun_test

import (
	"math"
	"math/big"
	"strconv"

	"kist/api"
)

// The model: a run's digits are those of the number above it in base two, without its highest one; noughts are counted in numbers that have no range.

func modelDigits(k int) []int {
	spelled := strconv.FormatInt(int64(k)+1, 2)
	var l []int
	for i := len(spelled) - 1; i > 0; i-- {
		l = append(l, int(spelled[i]-'0'))
	}
	return l
}

func modelRun(k int) ([]int, api.Errno) {
	if k < 0 || k > 1<<31-1 {
		return nil, api.ErrArg
	}
	return modelDigits(k), api.OK
}

// modelEncode goes from the back to the front, so that each run begins where another place or nothing stands ahead of it.
func modelEncode(n int, l []int) ([]int, api.Errno) {
	if n < 1 || n > 256 {
		return nil, api.ErrArg
	}
	back := []int{n + 1}
	k := 0
	for i := len(l) - 1; i >= 0; i-- {
		if l[i] < 0 || l[i] > n-1 {
			return nil, api.ErrSymbol
		}
		if l[i] != 0 {
			back = append(back, l[i]+1)
			continue
		}
		k++
		if i > 0 && l[i-1] == 0 {
			continue
		}
		digits := modelDigits(k)
		for d := len(digits) - 1; d >= 0; d-- {
			back = append(back, digits[d])
		}
		k = 0
	}
	return turned(back), api.OK
}

func turned(l []int) []int {
	var out []int
	for i := len(l) - 1; i >= 0; i-- {
		out = append(out, l[i])
	}
	return out
}

// modelDecode says at each symbol how many places there are with it.
func modelDecode(n, most int, l []int) ([]int, api.Errno) {
	if n < 1 || n > 256 || most < 0 || most > 262144 {
		return nil, api.ErrArg
	}
	var places []int
	weight, ended := big.NewInt(1), false
	for _, s := range l {
		if s < 0 || s > n+1 {
			return nil, api.ErrSymbol
		}
		if ended {
			return nil, api.ErrEnd
		}
		if s == n+1 {
			ended = true
			continue
		}
		if s > 1 {
			weight.SetInt64(1)
			places = append(places, s-1)
		} else {
			more := new(big.Int).Mul(weight, big.NewInt(int64(s+1)))
			if more.Cmp(big.NewInt(int64(most-len(places)))) > 0 {
				return nil, api.ErrBig
			}
			places = append(places, make([]int, more.Int64())...)
			weight.Lsh(weight, 1)
		}
		if len(places) > most {
			return nil, api.ErrBig
		}
	}
	if !ended {
		return nil, api.ErrEnd
	}
	return places, api.OK
}

// spread are places: a number below 0 stands for so many noughts.
func spread(l ...int) []int {
	var out []int
	for _, x := range l {
		if x < 0 {
			out = append(out, make([]int, -x)...)
		} else {
			out = append(out, x)
		}
	}
	return out
}

// rows are all rows of at most n numbers from low to high.
func rows(low, high, n int) [][]int {
	l := [][]int{nil}
	for from := 0; n > 0; n-- {
		to := len(l)
		for _, row := range l[from:to] {
			for x := low; x <= high; x++ {
				l = append(l, append(row[:len(row):len(row)], x))
			}
		}
		from = to
	}
	return l
}

// chain is a plain rule for numbers that look mixed, the same at each run.
type chain uint64

func (c *chain) next() int {
	*c = *c*6364136223846793005 + 1442695040888963407
	return int(*c >> 33)
}

// places are some where n symbols are in use: runs of up to long noughts and other places between them.
func (c *chain) places(n, pieces, long int) []int {
	var out []int
	for range pieces {
		if c.next()%2 == 0 {
			out = append(out, make([]int, c.next()%(long+1))...)
		}
		out = append(out, c.next()%n)
	}
	return out
}

// row is places with how many symbols are in use.
type row struct {
	n int
	l []int
}

// someRows are those that each call is held against the model with.
func someRows() []row {
	var out []row
	c := chain(71)
	for _, n := range []int{1, 2, 3, 4, 16, 127, 128, 129, 255, 256} {
		for pieces := 1; pieces < 300; pieces = 2*pieces + 3 {
			for _, long := range []int{0, 1, 3, 40, 300} {
				out = append(out, row{n, c.places(n, pieces, long)})
			}
		}
		every := []int{}
		for x := range n {
			every = append(every, x)
		}
		out = append(out, row{n, every}, row{n, turned(every)}, row{n, spread(-1000)}, row{n, nil})
	}
	for _, l := range rows(0, 2, 7) {
		out = append(out, row{3, l}, row{256, l})
	}
	return out
}

// wrongCounts are numbers of symbols that may not be in use.
func wrongCounts() []int {
	return []int{0, -1, -2, -255, -256, 257, 258, 512, 1<<16 + 1, 1 << 32, 1<<32 + 1, 1<<32 + 256, -1<<32 + 3, math.MinInt, math.MinInt + 1, math.MaxInt - 1, math.MaxInt}
}

// wrongNumbers are numbers that lie outside the range from 0 to high.
func wrongNumbers(high int) []int {
	return []int{-1, -2, -high, -high - 1, -256, high + 1, high + 2, 2*high + 2, high + 256, 1 << 31, 1 << 32, 1<<32 + high, -1 << 32, -1<<32 + 1, math.MinInt32, math.MaxInt32, math.MinInt, math.MinInt + 1, math.MaxInt - 1, math.MaxInt}
}
