package pax_test

import (
	"testing"

	"kist/api"
)

// P17.3
func TestLastByHand(t *testing.T) {
	l := pairs("path", "a", "size", "1", "path", "b", "", "none", "a=b", "c", "size", "", "pat", "h")
	for key, want := range map[string]string{"path": "b", "size": "", "": "none", "a=b": "c", "pat": "h"} {
		wantLast(t, l, key, want, true)
	}
	for _, key := range []string{"p", "pa", "paths", "Path", "PATH", "path ", " path", "path\x00", "a", "b", "1", "none", "a=", "=", "\x00"} {
		wantLast(t, l, key, "", false)
	}
}

// P17.3: a list without pairs.
func TestLastOfNothing(t *testing.T) {
	for _, key := range []string{"", "path", "=", letters("k", 1000)} {
		wantLast(t, nil, key, "", false)
		wantLast(t, []api.Pair{}, key, "", false)
		wantLast(t, pairs("path", "a")[:0], key, "", false)
	}
}

// P17.3: a pair at each place of a list, alone and among others of its key.
func TestLastAtEachPlace(t *testing.T) {
	for n := 1; n < 40; n++ {
		for at := range n {
			l := make([]api.Pair, n)
			for i := range l {
				l[i] = api.Pair{Key: "other", Value: "v"}
			}
			l[at] = api.Pair{Key: "k", Value: "1"}
			wantLast(t, l, "k", "1", true)
			for i := range at {
				l[i] = api.Pair{Key: "k", Value: "0"}
				wantLast(t, l, "k", "1", true)
			}
			wantLast(t, l[:at], "k", map[bool]string{true: "0"}[at > 0], at > 0)
			wantLast(t, l[at+1:], "k", "", false)
		}
	}
}

// P17.3: an empty value hides those ahead of it.
func TestLastOfAnEmptyValue(t *testing.T) {
	wantLast(t, pairs("k", "v", "k", ""), "k", "", true)
	wantLast(t, pairs("k", "", "k", "v"), "k", "v", true)
	wantLast(t, pairs("", ""), "", "", true)
}

// P17.3: lists of all kinds of pairs.
func TestLastAsTheModel(t *testing.T) {
	c := chain(173)
	keys := []string{"", "a", "b", "ab", "a=", "path", "path\x00", "\xff"}
	for range 20000 {
		l := make([]api.Pair, c.length(12))
		for i := range l {
			l[i] = api.Pair{Key: keys[c.next()%len(keys)], Value: c.text(c.length(4))}
		}
		for _, key := range keys {
			likeLast(t, l, key)
		}
	}
}
