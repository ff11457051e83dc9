package lengths_test

import (
	"slices"
	"testing"

	"kist/api"
	"kist/lengths"
)

// wantFlat tells what Flat answers against what it should.
func wantFlat(t *testing.T, w, want []int, wantE api.Errno) {
	t.Helper()
	if l, e := lengths.Flat(w); !slices.Equal(l, want) || e != wantE {
		t.Fatalf("Flat(%v) = %v, %d, not %v, %d", w, l, int(e), want, int(wantE))
	}
}

// P8.3
func TestFlatOfTheExamples(t *testing.T) {
	wantFlat(t, []int{1, 9, 1}, []int{2, 1, 2}, api.OK)
	wantFlat(t, []int{0, 0, 0, 0}, []int{2, 2, 2, 2}, api.OK)
	wantFlat(t, []int{0, 0}, []int{1, 1}, api.OK)
	wantFlat(t, []int{0, 1 << 30}, []int{1, 1}, api.OK)
}

// P8.3: the shorter ones are those of the greatest weights, of one weight those of the lesser numbers.
func TestFlatOfOneWeight(t *testing.T) {
	wantFlat(t, []int{1, 1, 1}, []int{1, 2, 2}, api.OK)
	wantFlat(t, []int{3, 4, 4}, []int{2, 1, 2}, api.OK)
	wantFlat(t, []int{1, 2, 3, 2, 2}, []int{3, 2, 2, 2, 3}, api.OK)
	wantFlat(t, []int{5, 5, 5, 5, 5}, []int{2, 2, 2, 3, 3}, api.OK)
	wantFlat(t, []int{1, 2, 3, 4, 5, 6}, []int{3, 3, 3, 3, 2, 2}, api.OK)
	wantFlat(t, []int{1, 1, 1, 1, 1, 1, 2}, []int{3, 3, 3, 3, 3, 3, 2}, api.OK)
}

// P8.1: a weight of 0 counts as 1.
func TestFlatOfNoughts(t *testing.T) {
	wantFlat(t, []int{0, 1, 1}, []int{1, 2, 2}, api.OK)
	wantFlat(t, []int{1, 0, 1}, []int{1, 2, 2}, api.OK)
	wantFlat(t, []int{0, 0, 2}, []int{2, 2, 1}, api.OK)
	wantFlat(t, []int{0, 1, 0, 1, 0, 1}, []int{2, 2, 3, 3, 3, 3}, api.OK)
}

// P8.3
func TestFlatAsTheModel(t *testing.T) {
	for _, w := range someWeights() {
		want, wantE := modelFlat(w)
		wantFlat(t, w, want, wantE)
	}
	c := chain(85)
	for n := 2; n <= 258; n++ {
		for _, high := range []int{0, 1, 3, 40, 1 << 30} {
			w := c.weights(n, high)
			want, wantE := modelFlat(w)
			wantFlat(t, w, want, wantE)
		}
	}
}

// P8.1, P8.3
func TestFlatRefuses(t *testing.T) {
	for _, w := range wrongWeights() {
		wantFlat(t, w, nil, api.ErrArg)
	}
}

// P8.5
func TestFlatIsFull(t *testing.T) {
	for _, w := range someWeights() {
		l, e := lengths.Flat(w)
		if e != api.OK || len(l) != len(w) || !lengths.Full(l) || !modelFull(l) || slices.Max(l)-slices.Min(l) > 1 {
			t.Fatalf("Flat(%v) = %v, %d", w, l, int(e))
		}
	}
}

// Rule 4: what is handed in is not changed, nor its spare room; what is handed out is new.
func TestFlatAlone(t *testing.T) {
	room := []int{0, 2, 3, 2, 0, 9, 9}
	first, _ := lengths.Flat(room[:5])
	if want := []int{0, 2, 3, 2, 0, 9, 9}; !slices.Equal(room, want) {
		t.Error(room)
	}
	clear(room)
	if want := []int{3, 2, 2, 2, 3}; !slices.Equal(first, want) {
		t.Error(first)
	}
	clear(first[:cap(first)])
	wantFlat(t, []int{0, 2, 3, 2, 0}, []int{3, 2, 2, 2, 3}, api.OK)
}
