package disk_test

import (
	"slices"
	"testing"

	"kist/api"
)

// The first example.
func TestTheFirstExample(t *testing.T) {
	p := newPair(t, 4, "")
	p.write(2, sector('x'))
	p.wants("..x")
	p.cut(1)
	p.wants(".")
	if e := p.d.Write(4, sector('x')); e != api.ErrRange {
		t.Error(int(e))
	}
	p.wants(".")
}

// P19.2: each sector of devices of each length, and those beside them.
func TestWriteOfEachSector(t *testing.T) {
	for capacity := 1; capacity <= 8; capacity++ {
		for n := range capacity + 1 {
			for i := -1; i <= capacity+1; i++ {
				p := newPair(t, capacity, spelled("abcdefgh"[:n]))
				p.write(i, sector('x'))
				p.readAll()
				p.write(i, sector('y'))
				p.readAll()
				p.write(0, sector('z'))
				p.readAll()
			}
		}
	}
}

// P19.2
func TestCutToEachLength(t *testing.T) {
	for n := range 9 {
		for to := -1; to <= 10; to++ {
			for again := -1; again <= 10; again++ {
				p := newPair(t, 9, spelled("abcdefgh"[:n]))
				p.cut(to)
				p.readAll()
				p.cut(again)
				p.write(8, sector('x'))
				p.readAll()
			}
		}
	}
}

// P19.2: what was cut off does not come back.
func TestWhatIsCutOffIsGone(t *testing.T) {
	p := newPair(t, 6, spelled("abcdef"))
	p.cut(2)
	p.write(4, sector('x'))
	p.wants("ab..x")
	p.cut(0)
	p.write(2, sector('y'))
	p.wants("..y")
	p.sync()
	p.cut(1)
	p.sync()
	p.write(5, sector('z'))
	p.wants(".....z")
	p.plan(3, false, true, false, true)
	p.cut(1)
	p.write(2, sector('v'))
	p.write(3, sector('w'))
	p.wants("...w")
}

// P19.2: numbers and texts that may not be, the numbers told first; nothing is counted, and nothing changed.
func TestWrongNumbersAndTexts(t *testing.T) {
	for _, image := range []string{"", spelled("ab"), spelled("abcd")} {
		p := newPair(t, 4, image)
		for _, i := range append(farOff(), 4, 5) {
			p.read(i)
			for _, n := range []int{0, 1, 511, 512, 513, 1024} {
				p.write(i, noughts(n))
			}
		}
		for _, i := range append(farOff(), 5) {
			p.cut(i)
		}
		for i := range 4 {
			for _, n := range []int{0, 1, 2, 256, 511, 513, 514, 1023, 1024, 512 * 512} {
				if e := p.d.Write(i, noughts(n)); e != api.ErrArg {
					t.Error(i, n, int(e))
				}
				p.look()
			}
		}
		if p.d.Calls() != 0 || p.d.Image() != image {
			t.Error(p.d.Calls(), short(p.d.Image()))
		}
	}
}

// P19.2: bytes of any kind, each at its place.
func TestBytesOfAnyKind(t *testing.T) {
	c := chain(192)
	p := newPair(t, 16, "")
	for range 20 {
		for range 20 {
			p.write(c.next()%16, c.bytes(512))
		}
		p.sync()
		p.readAll()
	}
}

// P19.2: a device may be as long as there can be.
func TestTheGreatestDevice(t *testing.T) {
	p := newPair(t, 4096, "")
	p.write(4095, sector('x'))
	p.write(4096, sector('x'))
	p.read(0)
	p.read(4094)
	p.read(4095)
	p.read(4096)
	p.cut(4097)
	p.cut(4096)
	p.cut(4095)
	p.read(4095)
	p.sync()
	p.cut(0)
	p.plan(1)
	p.sync()
	if p.d.Len() != 4095 {
		t.Error(p.d.Len())
	}
}

// P19.4: of each call only those that were answered OK are counted, and no others than these four.
func TestCallsAreCounted(t *testing.T) {
	p := newPair(t, 2, "")
	counted := func(want int) {
		t.Helper()
		if n := p.d.Calls(); n != want {
			t.Fatal(n, want)
		}
	}
	p.read(0)
	p.write(2, sector('a'))
	p.write(0, "a")
	p.cut(1)
	counted(0)
	p.write(0, sector('a'))
	counted(1)
	p.read(0)
	counted(2)
	p.cut(1)
	counted(3)
	p.sync()
	counted(4)
	p.sync()
	counted(5)
	p.plan(1)
	p.plan(-1)
	p.up()
	p.look()
	p.read(0)
	counted(6)
	p.sync()
	p.read(0)
	p.write(0, sector('a'))
	p.cut(0)
	p.sync()
	p.plan(0)
	counted(6)
	p.up()
	counted(6)
	p.read(0)
	counted(7)
}

// P19.2: what is handed out is what was there then.
func TestWhatIsHandedOutStays(t *testing.T) {
	p := newPair(t, 3, spelled("ab"))
	s, _ := p.d.Read(0)
	image := p.d.Image()
	p.m.calls++
	p.write(0, sector('x'))
	p.write(2, sector('y'))
	p.cut(1)
	p.plan(1)
	p.sync()
	if s != sector('a') || image != spelled("ab") {
		t.Error(short(s), short(image))
	}
}

// P19.3: a list that is handed in may be changed later, and is not changed, its spare room neither.
func TestWhatIsHandedInIsNotKept(t *testing.T) {
	p := newPair(t, 3, spelled("ab"))
	room := []bool{false, true, false, true, true}
	keep := room[:3]
	p.plan(3, keep...)
	keep[0], keep[1] = true, false
	if !slices.Equal(room, []bool{true, false, false, true, true}) {
		t.Error(room)
	}
	p.write(0, sector('x'))
	p.write(1, sector('y'))
	p.write(2, sector('z'))
	p.wants("ay")
	if !slices.Equal(room, []bool{true, false, false, true, true}) {
		t.Error(room)
	}
}
