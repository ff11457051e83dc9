package lengths_test

import (
	"math"
	"slices"
	"testing"

	"kist/api"
	"kist/lengths"
)

// wantMake tells what Make answers against what it should.
func wantMake(t *testing.T, w []int, most int, want []int, wantE api.Errno) {
	t.Helper()
	if l, e := lengths.Make(w, most); !slices.Equal(l, want) || e != wantE {
		t.Fatalf("Make(%v; %d) = %v, %d, not %v, %d", w, most, l, int(e), want, int(wantE))
	}
}

// P8.2
func TestMakeOfTheExamples(t *testing.T) {
	wantMake(t, []int{5, 1, 1, 1}, 17, []int{1, 3, 3, 2}, api.OK)
	wantMake(t, []int{1, 1}, 17, []int{1, 1}, api.OK)
	wantMake(t, []int{1, 1}, 11, nil, api.ErrArg)
}

// P8.2: of one weight the lesser number comes first: a symbol ahead of what was made, an earlier tree ahead of a later one.
func TestMakeOfOneWeight(t *testing.T) {
	wantMake(t, []int{1, 1, 1}, 12, []int{2, 2, 1}, api.OK)
	wantMake(t, []int{1, 1, 2}, 12, []int{2, 2, 1}, api.OK)
	wantMake(t, []int{2, 1, 1}, 12, []int{1, 2, 2}, api.OK)
	wantMake(t, []int{1, 1, 2, 2}, 12, []int{2, 2, 2, 2}, api.OK)
	wantMake(t, []int{1, 1, 1, 1, 2}, 12, []int{3, 3, 2, 2, 2}, api.OK)
	wantMake(t, []int{1, 1, 1, 1, 1}, 12, []int{3, 3, 2, 2, 2}, api.OK)
	wantMake(t, []int{1, 1, 1, 1, 1, 1}, 12, []int{3, 3, 3, 3, 2, 2}, api.OK)
	wantMake(t, []int{2, 2, 1, 1, 1, 1}, 12, []int{2, 2, 3, 3, 3, 3}, api.OK)
	wantMake(t, []int{3, 1, 2, 3}, 12, []int{2, 2, 2, 2}, api.OK)
	wantMake(t, []int{3, 1, 2, 3, 3}, 12, []int{2, 3, 3, 2, 2}, api.OK)
}

// P8.2
func TestMakeAsTheModel(t *testing.T) {
	for _, w := range someWeights() {
		for _, most := range []int{12, 13, 17, 20} {
			want, wantE := modelMake(w, most)
			wantMake(t, w, most, want, wantE)
		}
	}
	c := chain(82)
	for range 3000 {
		w := c.weights(2+c.next()%40, 1<<(c.next()%31)-1)
		most := 12 + c.next()%9
		want, wantE := modelMake(w, most)
		wantMake(t, w, most, want, wantE)
	}
}

// P8.2: lengths up to most stay; one above it makes all weights w / 2 + 1.
func TestMakeAtMost(t *testing.T) {
	for most := 12; most <= 20; most++ {
		for n := most - 3; n <= most+20; n++ {
			w := fibonacci(n)
			want, _ := modelMake(w, most)
			wantMake(t, w, most, want, api.OK)
			deep := slices.Max(modelJoin(w))
			if deep != n-1 || deep <= most && !slices.Equal(want, modelJoin(w)) || deep > most && slices.Equal(want, modelJoin(w)) {
				t.Fatal(most, n, deep)
			}
		}
	}
	wantMake(t, fibonacci(14), 13, []int{13, 13, 12, 11, 10, 9, 8, 7, 6, 5, 4, 3, 2, 1}, api.OK)
	wantMake(t, fibonacci(13), 12, []int{12, 12, 11, 10, 9, 8, 7, 6, 5, 4, 3, 2, 1}, api.OK)
	// Done anew with 1 1 2 2 3 5 7 11 18 28 45 73 117 189: 2 (of 1 and 1) meets 3, 4 (of 2 and 2) meets 5, and so the others meet one of these two by turns.
	wantMake(t, fibonacci(14), 12, []int{7, 7, 7, 7, 6, 6, 5, 5, 4, 4, 3, 3, 2, 2}, api.OK)
}

// P8.1, P8.2: also where halving is done many times over, by weights as great as may be.
func TestMakeOfGreatWeights(t *testing.T) {
	for n := 28; n <= 32; n++ {
		for most := 12; most <= 20; most++ {
			want, wantE := modelMake(powers(n), most)
			wantMake(t, powers(n), most, want, wantE)
		}
	}
	for n := 2; n <= 258; n++ {
		same := slices.Repeat([]int{1 << 30}, n)
		want, _ := lengths.Make(slices.Repeat([]int{1}, n), 12)
		wantMake(t, same, 12, want, api.OK)
	}
}

// P8.2: with weights of 1 and 2 alone none is above 12, so that each call ends.
func TestMakeOfOnesAndTwos(t *testing.T) {
	c := chain(83)
	for n := 2; n <= 258; n++ {
		for ones := 0; ones <= n; ones += 1 + n/7 {
			w := slices.Concat(slices.Repeat([]int{1}, ones), slices.Repeat([]int{2}, n-ones))
			for s := range w {
				other := c.next() % n
				w[s], w[other] = w[other], w[s]
			}
			l, e := lengths.Make(w, 12)
			free, _ := lengths.Make(w, 20)
			if e != api.OK || slices.Max(l) > 12 || !slices.Equal(l, free) {
				t.Fatal(n, ones, l, int(e))
			}
		}
	}
}

// P8.1: a weight of 0 counts as 1, from the first round on.
func TestMakeOfNoughts(t *testing.T) {
	wantMake(t, []int{0, 1, 1}, 12, []int{2, 2, 1}, api.OK)
	wantMake(t, []int{1, 0, 1}, 12, []int{2, 2, 1}, api.OK)
	wantMake(t, []int{1, 1, 0}, 12, []int{2, 2, 1}, api.OK)
	wantMake(t, []int{0, 0, 0, 0, 2, 2, 2}, 12, []int{3, 3, 3, 3, 3, 3, 2}, api.OK)
	for _, w := range someWeights() {
		for _, most := range []int{12, 17} {
			want, _ := lengths.Make(asOne(w), most)
			wantMake(t, w, most, want, api.OK)
		}
	}
}

// P8.1, P8.2
func TestMakeRefuses(t *testing.T) {
	for _, w := range wrongWeights() {
		for _, most := range []int{12, 17, 20, 11, 21} {
			wantMake(t, w, most, nil, api.ErrArg)
		}
	}
	for _, most := range []int{11, 10, 1, 0, -1, -12, -17, 21, 22, 1<<32 + 17, -1<<32 + 17, math.MinInt, math.MinInt + 17, math.MaxInt, math.MaxInt - 1} {
		for _, w := range [][]int{{1, 1}, {0, 0, 0}, fibonacci(30), make([]int, 258)} {
			wantMake(t, w, most, nil, api.ErrArg)
		}
	}
	for most := 12; most <= 20; most++ {
		wantMake(t, []int{0, 1 << 30}, most, []int{1, 1}, api.OK)
	}
	for n := 2; n <= 258; n++ {
		if l, e := lengths.Make(make([]int, n), 17); len(l) != n || e != api.OK {
			t.Fatal(n, l, int(e))
		}
	}
}

// P8.5
func TestMakeIsFull(t *testing.T) {
	for _, w := range someWeights() {
		for most := 12; most <= 20; most++ {
			l, e := lengths.Make(w, most)
			if e != api.OK || len(l) != len(w) || !lengths.Full(l) || !modelFull(l) || slices.Max(l) > most {
				t.Fatalf("Make(%v; %d) = %v, %d", w, most, l, int(e))
			}
		}
	}
}

// wantBest tells whether what Make answers costs no more than the best lengths do, a weight of 0 as one of 1.
func wantBest(t *testing.T, w []int, best int) {
	t.Helper()
	for most := 12; most <= 20; most++ {
		l, _ := lengths.Make(w, most)
		if sum, e := lengths.Cost(asOne(w), l); sum != best || e != api.OK {
			t.Fatalf("Make(%v; %d) = %v costs %d, %d, and the best %d", w, most, l, sum, int(e), best)
		}
	}
}

// P8.6: against all lengths that there are.
func TestMakeIsBestOfAll(t *testing.T) {
	for n := 2; n <= 5; n++ {
		all := slices.DeleteFunc(rows(1, n, n), func(l []int) bool { return lengths.Check(l) != api.OK })
		for _, w := range rows(0, 4, n) {
			best := math.MaxInt
			for _, l := range all {
				sum, _ := lengths.Cost(asOne(w), l)
				best = min(best, sum)
			}
			wantBest(t, w, best)
		}
	}
}

// P8.6: against what the best lengths cost, up to weights of 609 together.
func TestMakeIsBestBelow610(t *testing.T) {
	together := func(w []int) int {
		sum := 0
		for _, v := range asOne(w) {
			sum += v
		}
		return sum
	}
	tried := 0
	try := func(w []int) {
		if together(w) < 610 {
			tried++
			wantBest(t, w, leastCost(w))
		}
	}
	for _, w := range someWeights() {
		try(w)
	}
	c := chain(84)
	for n := 2; n <= 258; n++ {
		for range 4 {
			w := c.weights(n, 1+c.next()%(1200/n))
			for together(w) < 609 {
				w[c.next()%n] += 1 + c.next()%(609-together(w))
			}
			try(w)
		}
		try(append(make([]int, n-1), 610-n))
	}
	for n := 2; n <= 13; n++ {
		w := fibonacci(n)
		w[n-1] += 609 - together(w)
		try(w)
		try(fibonacci(n))
	}
	if tried < 2000 {
		t.Error(tried)
	}
}

// Rule 4: what is handed in is not changed, nor its spare room; what is handed out is new. Rule 5: an answer does not hang on what was asked ahead of it.
func TestMakeAlone(t *testing.T) {
	room := append(fibonacci(14), 9, 9, 0)
	room[1] = 0
	kept := slices.Clone(room)
	want, _ := modelMake(room[:14], 12)
	first, _ := lengths.Make(room[:14], 12)
	if !slices.Equal(room, kept) {
		t.Error(room)
	}
	clear(room)
	if !slices.Equal(first, want) {
		t.Error(first)
	}
	clear(first[:cap(first)])
	wantMake(t, kept[:14], 12, want, api.OK)
}
