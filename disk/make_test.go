package disk_test

import (
	"math"
	"testing"

	"kist/api"
	"kist/disk"
)

// P19.1
func TestNewOfEachCapacity(t *testing.T) {
	for n := 1; n <= 4096; n++ {
		d, e := disk.New(n)
		if d == nil || e != api.OK {
			t.Fatal(n, d != nil, int(e))
		}
		if d.Capacity() != n || d.Len() != 0 || d.Image() != "" || d.Calls() != 0 || d.Dead() {
			t.Fatal(n, d.Capacity(), d.Len(), short(d.Image()), d.Calls(), d.Dead())
		}
	}
	for _, n := range append(farOff(), 0) {
		if d, e := disk.New(n); d != nil || e != api.ErrArg {
			t.Error(n, d != nil, int(e))
		}
	}
}

// P19.1: images of each number of sectors, up to as many as there can be, and beyond.
func TestLoadOfSectors(t *testing.T) {
	for _, capacity := range []int{1, 2, 3, 10, 100} {
		for n := range capacity + 3 {
			p := newPair(t, capacity, spelled("abcdefgh.j")[:512*min(n, 10)]+noughts(512*max(0, n-10)))
			if (p.d != nil) != (n <= capacity) {
				t.Fatal(capacity, n)
			}
			if p.d != nil {
				p.readAll()
			}
		}
	}
	c := chain(191)
	image := c.bytes(4096 * 512)
	p := newPair(t, 4096, image)
	for _, i := range []int{0, 1, 2000, 4094, 4095, 4096} {
		p.read(i)
	}
	newPair(t, 4096, image[512:])
	newPair(t, 4095, image[512:])
	newPair(t, 4095, image)
	newPair(t, 4096, image+noughts(512))
	newPair(t, 4096, image+noughts(1))
	newPair(t, 4096, image[1:])
}

// P19.1: images of parts of sectors are none.
func TestLoadOfPartsOfSectors(t *testing.T) {
	for n := range 512*3 + 2 {
		for _, capacity := range []int{1, 2, 3, 4, 4096} {
			d, e := disk.Load(capacity, noughts(n))
			if n%512 == 0 && n <= 512*capacity {
				if d == nil || e != api.OK || d.Len() != n/512 || d.Image() != noughts(n) {
					t.Fatal(capacity, n, int(e))
				}
			} else if d != nil || e != api.ErrArg {
				t.Fatal(capacity, n, d != nil, int(e))
			}
		}
	}
}

// P19.1: capacities that may not be, whatever the image.
func TestLoadRefusesCapacities(t *testing.T) {
	for _, image := range []string{"", "a", noughts(512), noughts(511), noughts(4096 * 512), noughts(4097 * 512)} {
		for _, n := range append(farOff(), 0) {
			if d, e := disk.Load(n, image); d != nil || e != api.ErrArg {
				t.Error(n, len(image), d != nil, int(e))
			}
		}
	}
}

// P19.1: a device with sectors has nothing pending, and no plan.
func TestLoadIsSure(t *testing.T) {
	for _, keep := range keeps(3) {
		p := newPair(t, 4, spelled("ab"))
		p.plan(1, keep...)
		p.sync()
		p.wants("ab")
		p.up()
		for range 20 {
			p.write(3, sector('c'))
			p.sync()
		}
	}
}

// P19.1: what no call made.
func TestWhatWasNotMade(t *testing.T) {
	var none *disk.Disk
	for _, d := range []*disk.Disk{none, {}, new(disk.Disk)} {
		for range 2 {
			for _, i := range append(farOff(), 0, 1) {
				for _, s := range []string{"", sector('a')} {
					if e := d.Write(i, s); e != api.ErrNil {
						t.Error(i, len(s), int(e))
					}
				}
				if s, e := d.Read(i); s != "" || e != api.ErrNil {
					t.Error(i, short(s), int(e))
				}
				if e := d.Cut(i); e != api.ErrNil {
					t.Error(i, int(e))
				}
				if e := d.Plan(api.Fall{At: i, Keep: []bool{true}}); e != api.ErrNil {
					t.Error(i, int(e))
				}
			}
			if e := d.Sync(); e != api.ErrNil {
				t.Error(int(e))
			}
			if e := d.Up(); e != api.ErrNil {
				t.Error(int(e))
			}
			if d.Capacity() != 0 || d.Len() != 0 || d.Dead() || d.Image() != "" || d.Calls() != 0 {
				t.Error(d.Capacity(), d.Len(), d.Dead(), short(d.Image()), d.Calls())
			}
		}
	}
	if _, e := disk.New(math.MinInt); e != api.ErrArg {
		t.Error(int(e))
	}
}

// P19.1: devices share nothing.
func TestDevicesAreApart(t *testing.T) {
	image := spelled("abc")
	p, q := newPair(t, 4, image), newPair(t, 4, image)
	p.write(0, sector('x'))
	p.cut(1)
	p.sync()
	q.look()
	q.write(3, sector('y'))
	q.plan(1)
	p.write(1, sector('z'))
	q.sync()
	p.sync()
	p.look()
	p.wants("xz")
	q.wants("abc")
}
