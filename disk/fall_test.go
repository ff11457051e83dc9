package disk_test

import (
	"math"
	"strings"
	"testing"

	"kist/api"
	"kist/disk"
)

// The second example.
func TestTheSecondExample(t *testing.T) {
	p := newPair(t, 4, "")
	p.write(0, sector('x'))
	p.sync()
	p.plan(2, false, true)
	if e := p.d.Write(0, sector('y')); e != api.OK {
		t.Error(int(e))
	}
	if e := p.d.Write(1, sector('z')); e != api.ErrDead {
		t.Error(int(e))
	}
	if e := p.d.Up(); e != api.OK {
		t.Error(int(e))
	}
	p.wants("xz")
}

// A move is one call of a pair.
type move func(p *pair)

func writes(i int, letter byte) move { return func(p *pair) { p.write(i, sector(letter)) } }
func cuts(n int) move                { return func(p *pair) { p.cut(n) } }
func syncs(p *pair)                  { p.sync() }

// rows are all rows of n of these.
func rows(n int, l ...move) [][]move {
	if n == 0 {
		return [][]move{nil}
	}
	var all [][]move
	for _, ahead := range rows(n-1, l...) {
		for _, one := range l {
			all = append(all, append(ahead[:len(ahead):len(ahead)], one))
		}
	}
	return all
}

// P19.3: all rows of four calls, the power going at each of them, with all that can be kept.
func TestFallsOfAllKinds(t *testing.T) {
	for _, row := range rows(4, writes(0, 'x'), writes(0, 'y'), writes(2, 'z'), cuts(0), cuts(1), syncs) {
		for at := 1; at <= 4; at++ {
			for _, keep := range keeps(at + 1) {
				p := newPair(t, 3, spelled("a"))
				p.plan(at, keep...)
				for _, one := range row {
					one(p)
				}
				p.up()
				p.readAll()
			}
		}
	}
}

// P19.3: rows of calls, a plan that comes between them, and some more behind the fall, in which the power goes again.
func TestPlansBetweenCalls(t *testing.T) {
	l := []move{writes(0, 'x'), writes(3, 'y'), cuts(1), syncs}
	for _, row := range rows(5, l...) {
		for planned := range 5 {
			for _, keep := range [][]bool{nil, {true}, {false, true}, {true, true, false, true}, {false, false, true, true, true}, {true, true, true, true, true}} {
				p := newPair(t, 4, spelled("ab"))
				for k, one := range row {
					if k == planned {
						p.plan(1+k%2, keep...)
					}
					one(p)
					if p.d.Dead() {
						p.up()
						p.plan(2, keep...)
					}
				}
				p.up()
				p.readAll()
			}
		}
	}
}

// P19.3: of the changes only those since the last Sync are numbered, wherever the plan came.
func TestKeptAreNumberedFromTheLastSync(t *testing.T) {
	for _, want := range []struct {
		letters string
		keep    []bool
	}{
		{"ab", nil},
		{"abc", []bool{true}},
		{"ab.d", []bool{false, true}},
		{"ab..e", []bool{false, false, true}},
		{"ab...f", []bool{false, false, false, true}},
		{"ab....g", []bool{false, false, false, false, true}},
		{"ab", []bool{false, false, false, false, false, true, true, true}},
		{"abc.e.g", []bool{true, false, true, false, true, false, true}},
		{"abcdefg", []bool{true, true, true, true, true}},
	} {
		p := newPair(t, 8, "")
		p.write(0, sector('a'))
		p.write(1, sector('b'))
		p.sync()
		p.write(2, sector('c'))
		p.write(3, sector('d'))
		p.plan(3, want.keep...)
		p.write(4, sector('e'))
		p.write(5, sector('f'))
		p.write(6, sector('g'))
		p.wants(want.letters)
	}
}

// P19.3: a Cut that is kept, where what it was to cut is not, or is.
func TestCutsThatAreKept(t *testing.T) {
	for _, want := range []struct {
		letters string
		keep    []bool
	}{
		{"ab", []bool{false, false, false, false}},
		{"ab", []bool{false, true, false, false}},
		{"ab..x", []bool{true, false, false, false}},
		{"ab.", []bool{true, true, false, false}},
		{"ab.y", []bool{true, true, true, false}},
		{"ab.yx", []bool{true, false, true, false}},
		{"a", []bool{false, false, false, true}},
		{"a", []bool{true, true, true, true}},
	} {
		p := newPair(t, 5, spelled("ab"))
		p.plan(4, want.keep...)
		p.write(4, sector('x'))
		p.cut(3)
		p.write(3, sector('y'))
		p.cut(1)
		p.wants(want.letters)
	}
}

// P19.3: the call at which the power goes is the last one of the pending, if it is a change; a Sync is none, and does not come to be.
func TestTheCallAtWhichThePowerGoes(t *testing.T) {
	for _, want := range []struct {
		letters string
		last    move
		keep    []bool
	}{
		{"xy", writes(1, 'y'), []bool{true, true}},
		{"x", writes(1, 'y'), []bool{true, false}},
		{"x", writes(1, 'y'), []bool{true}},
		{"ay", writes(1, 'y'), []bool{false, true}},
		{"", cuts(0), []bool{true, true}},
		{"x", cuts(0), []bool{true, false}},
		{"", cuts(0), []bool{false, true, true}},
		{"x", syncs, []bool{true, true}},
		{"x", syncs, []bool{true}},
		{"a", syncs, []bool{false, true, true}},
		{"a", syncs, nil},
	} {
		p := newPair(t, 3, spelled("a"))
		p.plan(2, want.keep...)
		p.write(0, sector('x'))
		p.wants("x")
		want.last(p)
		p.wants(want.letters)
		if !p.d.Dead() {
			t.Fatal("it is not dead")
		}
	}
}

// P19.3: Reads do not bring the power's going nearer, nor do calls that are refused.
func TestWhatIsNotCounted(t *testing.T) {
	p := newPair(t, 3, spelled("a"))
	p.plan(2, true, true)
	for range 5 {
		p.readAll()
		p.write(-1, sector('x'))
		p.write(3, sector('x'))
		p.write(0, "x")
		p.cut(-1)
		p.cut(2)
		p.plan(-1, false)
		p.plan(math.MinInt)
		p.up()
	}
	p.write(0, sector('x'))
	for range 5 {
		p.readAll()
		p.write(0, "x")
		p.cut(2)
	}
	if p.d.Dead() {
		t.Fatal("it is dead")
	}
	p.write(1, sector('y'))
	p.wants("xy")
	if !p.d.Dead() {
		t.Fatal("it is not dead")
	}
}

// P19.3: a plan of 0 is none; another one takes the place of the one that was there, and is counted from then on.
func TestAnotherPlan(t *testing.T) {
	p := newPair(t, 3, spelled("a"))
	p.plan(1, true)
	p.plan(0, true, true)
	for range 10 {
		p.write(0, sector('b'))
		p.sync()
	}
	p.plan(3, true, true, true)
	p.write(0, sector('c'))
	p.sync()
	p.plan(2)
	p.write(0, sector('d'))
	p.write(0, sector('e'))
	p.wants("c")
	p.up()
	p.plan(1)
	p.plan(2, true)
	p.write(0, sector('f'))
	p.write(0, sector('g'))
	p.wants("f")
	p.up()
	p.plan(math.MaxInt, true)
	for range 1000 {
		p.write(1, sector('h'))
		p.cut(1)
		p.sync()
	}
	p.plan(-1)
	p.plan(1)
	p.plan(math.MinInt)
	p.cut(0)
	p.wants("f")
}

// P19.3: behind a fall there is no plan, whatever is asked while the device is dead.
func TestBehindAFallThereIsNoPlan(t *testing.T) {
	for _, last := range []move{writes(0, 'x'), cuts(0), syncs} {
		p := newPair(t, 3, spelled("ab"))
		p.plan(1, false)
		last(p)
		for range 3 {
			p.plan(1, true)
			p.plan(0)
			p.plan(-1)
			p.look()
		}
		p.up()
		for range 20 {
			p.write(1, sector('x'))
			p.cut(1)
			p.sync()
		}
		p.wants("a")
	}
}

// P19.2, P19.3: while it is dead all that asks for power is ErrDead, whatever else is wrong; it is looked at as before.
func TestADeadDevice(t *testing.T) {
	p := newPair(t, 4, spelled("abc"))
	p.write(3, sector('d'))
	p.plan(1, true)
	p.cut(2)
	for range 2 {
		for _, i := range append(farOff(), 0, 3, 4, 5) {
			for _, s := range []string{"", sector('x')} {
				if e := p.d.Write(i, s); e != api.ErrDead {
					t.Error(i, len(s), int(e))
				}
			}
			if s, e := p.d.Read(i); s != "" || e != api.ErrDead {
				t.Error(i, short(s), int(e))
			}
			if e := p.d.Cut(i); e != api.ErrDead {
				t.Error(i, int(e))
			}
			if e := p.d.Plan(api.Fall{At: i}); e != api.ErrDead {
				t.Error(i, int(e))
			}
		}
		if e := p.d.Sync(); e != api.ErrDead {
			t.Error(int(e))
		}
		p.look()
	}
	p.wants("abcd")
	p.up()
	p.readAll()
	p.up()
	p.look()
}

// P19.3: Up of a device that is not dead changes nothing, its plan and what is pending neither.
func TestUpOfALiveDevice(t *testing.T) {
	p := newPair(t, 3, spelled("a"))
	p.write(0, sector('x'))
	p.up()
	p.plan(2, false, true)
	p.up()
	p.write(1, sector('y'))
	p.up()
	p.sync()
	p.wants("ay")
	if !p.d.Dead() {
		t.Error("it is not dead")
	}
}

// P19.3: what a fall left is what the next one begins with.
func TestFallBehindFall(t *testing.T) {
	p := newPair(t, 4, spelled("a"))
	p.write(1, sector('b'))
	p.plan(2, true, false)
	p.write(0, sector('x'))
	p.sync()
	p.wants("ab")
	p.up()
	p.write(2, sector('c'))
	p.plan(1, false, true, true, true)
	p.write(0, sector('d'))
	p.wants("db")
	p.up()
	p.plan(1, true)
	p.sync()
	p.wants("db")
	p.up()
	p.cut(0)
	p.plan(1)
	p.sync()
	p.wants("db")
}

// someChanges are changes to a device, and now and then a Sync.
func someChanges(p *pair, c *chain, n int) {
	for range n {
		switch c.next() % 8 {
		case 0:
			p.cut(c.next() % (p.m.length() + 1))
		case 1:
			p.sync()
		default:
			p.write(c.next()%p.m.capacity, sector(byte('a'+c.next()%26)))
		}
	}
}

// P19.5: a device whose last change was synced is what it was, whatever is kept.
func TestWhatWasSyncedStays(t *testing.T) {
	c := chain(195)
	for range 300 {
		p := newPair(t, 1+c.next()%8, "")
		someChanges(p, &c, c.next()%30)
		p.sync()
		image := p.d.Image()
		for range 3 {
			p.plan(1, c.keep(c.next()%40)...)
			p.readAll()
			p.sync()
			p.up()
			if p.d.Image() != image {
				t.Fatal(short(image), short(p.d.Image()))
			}
		}
	}
}

// P19.6: all kept, a device is what it was with all changes done; none kept, what it was at the last Sync.
func TestAllAreKeptOrNone(t *testing.T) {
	c := chain(196)
	all := make([]bool, 100)
	for i := range all {
		all[i] = true
	}
	for range 300 {
		p := newPair(t, 1+c.next()%8, "")
		someChanges(p, &c, c.next()%30)
		p.sync()
		synced := p.d.Image()
		for range c.next() % 30 {
			p.write(c.next()%p.m.capacity, sector('x'))
			p.cut(c.next() % (p.m.length() + 1))
		}
		done := p.d.Image()
		image, keep := done, all
		if c.next()%2 == 0 {
			image, keep = synced, make([]bool, c.next()%100)
		}
		p.plan(1, keep...)
		p.sync()
		if p.d.Image() != image {
			t.Fatal(short(synced), short(done), short(p.d.Image()))
		}
	}
}

// P19.6: each sector is one that was written there, or was there, or is all noughts.
func TestSectorsAreWholeOnes(t *testing.T) {
	c := chain(197)
	for range 300 {
		image := spelled("abcdefgh")
		d, _ := disk.Load(8, image)
		may := make([]string, 8)
		for i := range may {
			may[i] = noughts(512) + sector('a'+byte(i))
		}
		d.Plan(api.Fall{At: 20, Keep: c.keep(25)})
		for !d.Dead() {
			i := c.next() % 8
			if c.next()%4 == 0 {
				d.Cut(c.next() % (d.Len() + 1))
				continue
			}
			s := c.bytes(512)
			may[i] += s
			d.Write(i, s)
		}
		for i := range d.Len() {
			if at := strings.Index(may[i], d.Image()[512*i:512*i+512]); at < 0 || at%512 != 0 {
				t.Fatal(i, at)
			}
		}
	}
}

// P19.3: many changes, of which mixed ones are kept.
func TestManyChanges(t *testing.T) {
	c := chain(198)
	d, _ := disk.New(4096)
	last := make([]string, 4096)
	keep := c.keep(100000)
	d.Plan(api.Fall{At: 100000, Keep: keep})
	length := 0
	for k := range keep {
		i, s := c.next()%4096, sector(byte('a'+c.next()%26))
		if e := d.Write(i, s); (e != api.OK) != (k == len(keep)-1) {
			t.Fatal(k, int(e))
		}
		if keep[k] {
			last[i] = s
			length = max(length, i+1)
		}
	}
	d.Up()
	if d.Len() != length {
		t.Fatal(d.Len(), length)
	}
	for i, want := range last[:length] {
		if want == "" {
			want = noughts(512)
		}
		if s, e := d.Read(i); s != want || e != api.OK {
			t.Fatal(i, short(s), short(want), int(e))
		}
	}
}

// All promises: calls of all kinds, as the model has them.
func TestAsTheModel(t *testing.T) {
	c := chain(199)
	for range 2000 {
		capacity := 1 + c.next()%10
		p := newPair(t, capacity, c.bytes(512*(c.next()%(capacity+1))))
		for range 60 {
			anyCall(p, &c)
		}
	}
}

func anyCall(p *pair, c *chain) {
	switch n := c.next()%(p.m.capacity+3) - 1; c.next() % 12 {
	case 0, 1, 2, 3:
		p.write(n, c.bytes(512))
	case 4:
		p.write(n, c.bytes(c.next()%1025))
	case 5, 6:
		p.cut(n)
	case 7:
		p.sync()
	case 8:
		p.plan(c.next()%8-1, c.keep(c.next()%12)...)
	case 9:
		p.read(n)
	case 10:
		p.readAll()
	default:
		p.up()
	}
}
