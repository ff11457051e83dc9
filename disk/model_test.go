package disk_test

import (
	"math"
	"slices"
	"strconv"
	"strings"
	"testing"

	"kist/api"
	"kist/disk"
)

// A step is a Write, or a Cut, as plain data.
type step struct {
	cut bool
	n   int
	s   string
}

// on spells what is there behind the step.
func (x step) on(image string) string {
	switch {
	case x.cut && len(image) > 512*x.n:
		return image[:512*x.n]
	case x.cut:
		return image
	case len(image) < 512*x.n:
		return image + noughts(512*x.n-len(image)) + x.s
	case len(image) == 512*x.n:
		return image + x.s
	}
	return image[:512*x.n] + x.s + image[512*x.n+512:]
}

// A model is a device that is spelled: what is sure, all steps behind that, and no more. What there is now is told anew at each look.
type model struct {
	capacity int
	base     string
	steps    []step
	plan     api.Fall
	dead     bool
	calls    int
}

func newModel(capacity int, image string) (*model, api.Errno) {
	if capacity < 1 || capacity > 4096 {
		return nil, api.ErrArg
	}
	for sectors := range capacity + 1 {
		if len(image) == 512*sectors {
			return &model{capacity: capacity, base: image}, api.OK
		}
	}
	return nil, api.ErrArg
}

func (m *model) image() string {
	image := m.base
	for _, x := range m.steps {
		image = x.on(image)
	}
	return image
}

func (m *model) length() int { return len(m.image()) / 512 }

// kept is what a fall leaves.
func (m *model) kept(keep []bool) string {
	image := m.base
	for k, x := range m.steps {
		if slices.Contains(places(keep), k) {
			image = x.on(image)
		}
	}
	return image
}

// places are the numbers of those that are true.
func places(keep []bool) []int {
	var l []int
	for k, is := range keep {
		if is {
			l = append(l, k)
		}
	}
	return l
}

// answered tells what a call that nothing else stands against is answered.
func (m *model) answered() api.Errno {
	if m.plan.At == 1 {
		m.base, m.steps, m.plan, m.dead = m.kept(m.plan.Keep), nil, api.Fall{}, true
		return api.ErrDead
	}
	m.plan.At = max(0, m.plan.At-1)
	m.calls++
	return api.OK
}

func (m *model) read(i int) (string, api.Errno) {
	if m.dead {
		return "", api.ErrDead
	}
	image := m.image()
	if i < 0 || i >= len(image)/512 {
		return "", api.ErrRange
	}
	m.calls++
	return image[512*i : 512*i+512], api.OK
}

func (m *model) write(i int, s string) api.Errno {
	if m.dead {
		return api.ErrDead
	}
	if i < 0 || i >= m.capacity {
		return api.ErrRange
	}
	if len(s) != 512 {
		return api.ErrArg
	}
	m.steps = append(m.steps, step{n: i, s: s})
	return m.answered()
}

func (m *model) cut(n int) api.Errno {
	if m.dead {
		return api.ErrDead
	}
	if n < 0 || n > m.length() {
		return api.ErrRange
	}
	m.steps = append(m.steps, step{cut: true, n: n})
	return m.answered()
}

func (m *model) sync() api.Errno {
	if m.dead {
		return api.ErrDead
	}
	e := m.answered()
	if e == api.OK {
		m.base, m.steps = m.image(), nil
	}
	return e
}

func (m *model) setPlan(f api.Fall) api.Errno {
	if m.dead {
		return api.ErrDead
	}
	if f.At < 0 {
		return api.ErrArg
	}
	m.plan = api.Fall{At: f.At, Keep: slices.Clone(f.Keep)}
	return api.OK
}

// A pair is a device and its model, of which the same is asked.
type pair struct {
	t *testing.T
	d *disk.Disk
	m *model
	// told is all that was asked, for those who read of a fault.
	told []string
}

func newPair(t *testing.T, capacity int, image string) *pair {
	t.Helper()
	d, e := disk.Load(capacity, image)
	m, wantE := newModel(capacity, image)
	if e != wantE || (d == nil) != (m == nil) {
		t.Fatalf("Load of %d, %s: %v, %d; not %d", capacity, short(image), d != nil, int(e), int(wantE))
	}
	p := &pair{t: t, d: d, m: m, told: []string{"Load of " + strconv.Itoa(capacity) + ", " + short(image)}}
	if m != nil {
		p.look()
	}
	return p
}

func (p *pair) tell(words ...string) { p.told = append(p.told, strings.Join(words, " ")) }

// same holds one error against the model's, and all that can be looked at without a call.
func (p *pair) same(e, wantE api.Errno) {
	p.t.Helper()
	if e != wantE {
		p.t.Fatalf("%s: %d, not %d", strings.Join(p.told, "; "), int(e), int(wantE))
	}
	p.look()
}

func (p *pair) look() {
	p.t.Helper()
	image := p.m.image()
	if s := p.d.Image(); s != image {
		p.t.Fatalf("%s: Image is %s, not %s", strings.Join(p.told, "; "), short(s), short(image))
	}
	if n, l, calls, dead := p.d.Capacity(), p.d.Len(), p.d.Calls(), p.d.Dead(); n != p.m.capacity || l != len(image)/512 || calls != p.m.calls || dead != p.m.dead {
		p.t.Fatalf("%s: Capacity %d, Len %d, Calls %d, Dead %v; not %d, %d, %d, %v", strings.Join(p.told, "; "), n, l, calls, dead, p.m.capacity, len(image)/512, p.m.calls, p.m.dead)
	}
}

func (p *pair) read(i int) {
	p.t.Helper()
	p.tell("Read", strconv.Itoa(i))
	s, e := p.d.Read(i)
	want, wantE := p.m.read(i)
	if s != want {
		p.t.Fatalf("%s: %s, not %s", strings.Join(p.told, "; "), short(s), short(want))
	}
	p.same(e, wantE)
}

// readAll reads each sector, and those beside them.
func (p *pair) readAll() {
	p.t.Helper()
	for i := -1; i <= p.m.length(); i++ {
		p.read(i)
	}
}

func (p *pair) write(i int, s string) {
	p.t.Helper()
	p.tell("Write", strconv.Itoa(i), short(s))
	p.same(p.d.Write(i, s), p.m.write(i, s))
}

func (p *pair) cut(n int) {
	p.t.Helper()
	p.tell("Cut", strconv.Itoa(n))
	p.same(p.d.Cut(n), p.m.cut(n))
}

func (p *pair) sync() {
	p.t.Helper()
	p.tell("Sync")
	p.same(p.d.Sync(), p.m.sync())
}

func (p *pair) plan(at int, keep ...bool) {
	p.t.Helper()
	p.tell("Plan", strconv.Itoa(at), shortKeep(keep))
	p.same(p.d.Plan(api.Fall{At: at, Keep: keep}), p.m.setPlan(api.Fall{At: at, Keep: keep}))
}

func (p *pair) up() {
	p.t.Helper()
	p.tell("Up")
	p.m.dead = false
	p.same(p.d.Up(), api.OK)
}

// wants holds a device's sectors against letters, one a sector; a dot is one of noughts.
func (p *pair) wants(letters string) {
	p.t.Helper()
	if s := p.d.Image(); s != spelled(letters) {
		p.t.Fatalf("%s: Image is %s, not %s", strings.Join(p.told, "; "), short(s), letters)
	}
}

// sector is one of a letter; of a dot it is one of noughts.
func sector(letter byte) string {
	if letter == '.' {
		return noughts(512)
	}
	return strings.Repeat(string(rune(letter)), 512)
}

// spelled are sectors of letters.
func spelled(letters string) string {
	s := ""
	for _, letter := range []byte(letters) {
		s += sector(letter)
	}
	return s
}

// noughts are n bytes 0.
func noughts(n int) string { return strings.Repeat("\x00", n) }

// short tells of a text no more than can be read.
func short(s string) string {
	if len(s)%512 != 0 {
		return strconv.Itoa(len(s)) + " bytes"
	}
	letters := ""
	for at := 0; at < len(s) && at < 100*512; at += 512 {
		switch one := s[at : at+512]; {
		case one == noughts(512):
			letters += "."
		case one == strings.Repeat(one[:1], 512):
			letters += one[:1]
		default:
			letters += "?"
		}
	}
	return strconv.Quote(letters)
}

func shortKeep(keep []bool) string {
	s := ""
	for _, is := range keep {
		s += strconv.FormatBool(is)[:1]
	}
	return "(" + s + ")"
}

// keeps are all lists of at most n places.
func keeps(n int) [][]bool {
	l := [][]bool{nil}
	for at := 0; at < len(l); at++ {
		if len(l[at]) < n {
			l = append(l, append(slices.Clone(l[at]), false), append(slices.Clone(l[at]), true))
		}
	}
	return l
}

// farOff are numbers that no device has sectors for.
func farOff() []int {
	return []int{-1, -2, -512, 4097, 8192, 1 << 31, 1 << 32, 1 << 53, 1 << 54, 1 << 55, math.MaxInt / 512, math.MaxInt/512 + 1, math.MaxInt, math.MinInt, math.MinInt + 1}
}

// chain is a plain rule for numbers that look mixed, the same at each run.
type chain uint64

func (c *chain) next() int {
	*c = *c*6364136223846793005 + 1442695040888963407
	return int(*c >> 33)
}

// bytes are n mixed ones.
func (c *chain) bytes(n int) string {
	b := make([]byte, n)
	for i := range b {
		b[i] = byte(c.next())
	}
	return string(b)
}

// keep is a list of n places, each true or not.
func (c *chain) keep(n int) []bool {
	l := make([]bool, n)
	for i := range l {
		l[i] = c.next()%2 == 0
	}
	return l
}
