package stream_test

import (
	"strings"
	"testing"

	"kist/api"
)

// P13.3: streams of all levels, one behind the other, some of them of nothing.
func TestUnpackOfMany(t *testing.T) {
	c := chain(141)
	whole, all := "", ""
	for n := range 60 {
		s := c.runs(n%7*c.next()%90, 12, "abcd")
		all += s
		whole += ofTexts(1+n%9, modelParts(s, 1+c.next()%30)...).whole()
		wantUnpack(t, whole, all, api.OK)
	}
}

// P13.3: what stands behind a stream is a stream, or wrong: nothing is passed over.
func TestUnpackOfWhatIsBehind(t *testing.T) {
	good := ofTexts(2, "kist").whole()
	more := ofTexts(5, "keeps", " files").whole()
	wantUnpack(t, good+more, "kistkeeps files", api.OK)
	for n := 1; n < len(more); n++ {
		wantUnpack(t, good+more[:n], "", api.ErrShort)
	}
	for _, c := range []struct {
		behind string
		e      api.Errno
	}{
		{"\x00", api.ErrStream},
		{"\x00\x00\x00\x00", api.ErrStream},
		{"\n" + more, api.ErrStream},
		{"B", api.ErrShort},
		{"BZh", api.ErrShort},
		{"BZh5", api.ErrShort},
		{"BZh0", api.ErrStream},
		{more[4:], api.ErrStream},
		{"BZh5kist k", api.ErrStream},
		{"BZh5kist ", api.ErrShort},
	} {
		wantUnpack(t, good+c.behind, "", c.e)
		wantUnpack(t, good+more+c.behind, "", c.e)
		wantUnpack(t, c.behind, "", c.e)
	}
	wantUnpack(t, "\x00"+good, "", api.ErrStream)
}

// P13.3: all texts together, streams of nothing among them.
func TestUnpackOfMuch(t *testing.T) {
	const n = 262144
	empty := ofTexts(1).whole()
	for _, l := range [][]string{
		{flat(n)},
		{run(n)},
		{run(n - 1), "x"},
		{"x", run(n - 1)},
		{run(n / 2), run(n / 2)},
		{run(n - 2), "x", "y"},
	} {
		whole := ""
		for _, s := range l {
			whole += ofTexts(9, s).whole() + empty
		}
		wantUnpack(t, whole, strings.Join(l, ""), api.OK)
		for _, more := range []string{"x", "xy", run(n)} {
			behind := ofTexts(9, more).whole()
			wantUnpack(t, whole+behind, "", api.ErrBig)
			wantUnpack(t, behind+whole, "", api.ErrBig)
			wantUnpack(t, whole+behind+empty, "", api.ErrBig)
			wantUnpack(t, whole+behind+behind, "", api.ErrBig)
		}
	}
}

// P13.3: Take's errors are named ahead of too much, and so they are told, though they stand behind it.
func TestUnpackTellsErrorsAheadOfTooMuch(t *testing.T) {
	much := ofTexts(9, run(262144)).whole() + ofTexts(9, "x").whole()
	wantUnpack(t, much, "", api.ErrBig)
	wrong := ofTexts(3, "ban", "ana")
	wrong.sum = flipped(wrong.sum, 3)
	for _, c := range []struct {
		behind string
		e      api.Errno
	}{
		{"x", api.ErrStream},
		{"BZh", api.ErrShort},
		{wrong.whole(), api.ErrSum},
		{ofTexts(3, "ban", "ana").whole() + "BZh0", api.ErrStream},
		{ofTexts(1, flat(100001)).whole(), api.ErrBig},
	} {
		wantUnpack(t, much+c.behind, "", c.e)
		wantUnpack(t, much+much+c.behind, "", c.e)
	}
}

// P13.4: whatever level and most; and two such, one behind the other.
func TestUnpackOfPack(t *testing.T) {
	c := chain(142)
	last, lastPacked := "", pack(t, "", 1, 1)
	for _, s := range texts() {
		for _, most := range []int{1, 2, 3, 4, 5, 1 + c.next()%300, 100000} {
			packed := pack(t, s, 1+c.next()%9, most)
			wantUnpack(t, packed, s, api.OK)
			wantUnpack(t, packed+lastPacked, s+last, api.OK)
			wantUnpack(t, lastPacked+packed, last+s, api.OK)
			last, lastPacked = s, packed
		}
	}
}
