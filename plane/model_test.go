package plane_test

import (
	"math/rand"
	"strconv"
	"testing"

	"wharfinger/api"
	"wharfinger/attach"
	"wharfinger/bind"
	"wharfinger/call"
	"wharfinger/data"
	"wharfinger/object"
	"wharfinger/plane"
	"wharfinger/store"
)

// model is a plane as the chapter tells it, with leases, caches and queues of its own kind.
type model struct {
	s      *store.Store
	c      *call.Client
	now    uint64
	holder [3]int // one more than the replica; 0: nobody
	until  [3]uint64
	seats  [3][2]*seat
}

// seat is a replica: how far it has seen, and the keys that wait, as they came.
type seat struct {
	seen  uint64
	line  []waiting
	fails map[api.Key]int
}

type waiting struct {
	key api.Key
	due uint64
}

func newSeat() *seat { return &seat{fails: map[api.Key]int{}} }

func newModel(zones ...api.Zone) *model {
	m := &model{s: store.New(api.MaxBlocks), c: call.New(zones...)}
	m.forgetAll()
	return m
}

func (m *model) forgetAll() {
	for c := range m.seats {
		m.seats[c] = [2]*seat{newSeat(), newSeat()}
	}
}

func (s *seat) add(k api.Key, due uint64) bool {
	for i := range s.line {
		if s.line[i].key == k {
			s.line[i].due = due
			return true
		}
	}
	if len(s.line) == api.MaxKeys {
		return false
	}
	s.line = append(s.line, waiting{k, due})
	return true
}

func (s *seat) fail(k api.Key, now uint64) {
	fails := s.fails[k] + 1
	delay := uint64(64)
	if fails < 7 {
		delay = []uint64{1, 2, 4, 8, 16, 32}[fails-1]
	}
	if s.add(k, now+delay) {
		s.fails[k] = min(fails, 40)
	}
}

func (s *seat) take(now uint64) (api.Key, bool) {
	best := -1
	for i, w := range s.line {
		if w.due <= now && (best < 0 || w.due < s.line[best].due) {
			best = i
		}
	}
	if best < 0 {
		return api.Key{}, false
	}
	k := s.line[best].key
	s.line = append(s.line[:best:best], s.line[best+1:]...)
	return k, true
}

func (m *model) addAll(c int, s *seat) {
	s.seen = m.s.Version()
	for _, kind := range [][]api.Kind{{api.Claim, api.Volume}, {api.Volume}, {api.Claim, api.Snapshot}}[c] {
		for _, o := range m.s.List(kind) {
			s.add(api.Key{Kind: kind, Name: o.Name}, 0)
		}
	}
}

func (m *model) elect(c, replica int) api.Errno {
	if m.holder[c] != replica+1 && m.holder[c] != 0 && m.now < m.until[c] {
		return api.ErrHeld
	}
	m.holder[c], m.until[c] = replica+1, m.now+10
	return api.OK
}

func (m *model) step(c, replica int, o api.Outcome) (api.Act, api.Errno) {
	if m.holder[c] != replica+1 || m.now >= m.until[c] {
		return api.Act{}, api.ErrHeld
	}
	s := m.seats[c][replica]
	if s.seen != m.s.Version() {
		m.addAll(c, s)
	}
	k, ok := s.take(m.now)
	if !ok {
		return api.Act{}, api.OK
	}
	act := m.next(c, k)
	last := act
	if act.Do == api.Ask {
		last = m.behind(c, k, act.Call, m.c.Send(act.Call, o))
	}
	e := api.ErrLost
	switch last.Do {
	case api.Write:
		_, e = m.s.Put(last.Object)
	case api.Remove:
		e = m.s.Remove(object.Key(last.Object), last.Object.Version)
	}
	switch {
	case act.Do == api.Nothing:
		delete(s.fails, k)
	case e == api.OK:
		delete(s.fails, k)
		s.add(k, 0)
	default:
		s.fail(k, m.now)
	}
	return act, api.OK
}

func (m *model) next(c int, k api.Key) api.Act {
	all, version := m.s.All(), m.s.Version()
	switch {
	case c == 0 && k.Kind == api.Claim:
		return bind.Claim(all, version, k.Name)
	case c == 0:
		return bind.Volume(all, version, k.Name)
	case c == 1:
		return attach.Volume(all, version, k.Name)
	case k.Kind == api.Claim:
		return data.Claim(all, version, k.Name)
	}
	return data.Snapshot(all, version, k.Name)
}

func (m *model) behind(c int, k api.Key, x api.Call, r api.Result) api.Act {
	all, version := m.s.All(), m.s.Version()
	switch c {
	case 0:
		return bind.After(all, version, k, x, r)
	case 1:
		return attach.After(all, version, x, r)
	}
	return data.After(all, version, k, x, r)
}

func (m *model) get(kind api.Kind, name string) (api.Object, bool) {
	return m.s.Get(api.Key{Kind: kind, Name: name})
}

func (m *model) put(o api.Object) api.Errno {
	_, e := m.s.Put(o)
	return e
}

func (m *model) create(o api.Object) api.Errno {
	o = object.Default(o)
	if !object.User(o) {
		return api.ErrForm
	}
	if o.Kind == api.Volume {
		if len(o.Name) >= 4 && o.Name[:4] == "pvc/" {
			return api.ErrRange
		}
		if r := m.c.Send(api.Call{Verb: api.Create, Target: o.Name, Num: 1, Size: o.Size, Zone: o.Zone}, api.Done); r.Err != api.OK {
			return r.Err
		}
	}
	return m.put(o)
}

func (m *model) grow(name string, size int64) api.Errno {
	c, ok := m.get(api.Claim, name)
	if !ok {
		return api.ErrNone
	}
	if c.Phase != api.Bound || c.Deleting || size <= c.Size || size > api.MaxSize {
		return api.ErrRange
	}
	c.Size = size
	return m.put(c)
}

func (m *model) place(pod, node string) api.Errno {
	o, ok := m.get(api.Pod, pod)
	c, ok2 := m.get(api.Claim, o.Claim)
	if _, ok3 := m.get(api.Node, node); !ok || !ok2 || !ok3 {
		return api.ErrNone
	}
	if o.Node != "" {
		return api.ErrBusy
	}
	if f, ok := m.get(api.Class, c.Class); ok && f.Wait && c.Phase == api.Pending && c.Node == "" {
		c.Node = node
		if e := m.put(c); e != api.OK {
			return e
		}
	}
	o.Node = node
	return m.put(o)
}

func (m *model) power(o api.Object, keep, torn int) api.Errno {
	o = object.Default(o)
	if !object.User(o) || o.Kind == api.Volume {
		return api.ErrForm
	}
	e := m.s.Crash(o, keep, torn)
	if e == api.OK {
		m.forgetAll()
	}
	return e
}

// pair is a plane and its model, to which the same is done.
type pair struct {
	p *plane.Plane
	m *model
}

func newPair(zones ...api.Zone) *pair {
	return &pair{plane.New(zones...), newModel(zones...)}
}

// same holds what the plane answers to what the model does, and what is to be seen of the one to the other.
func (x *pair) same(t *testing.T, what string, got, want api.Errno) {
	t.Helper()
	if got != want {
		t.Fatalf("%s: error %d; want %d", what, got, want)
	}
	l, all := x.p.Objects(), x.m.s.All()
	if len(l) != len(all) || x.p.Now() != x.m.now {
		t.Fatalf("%s: %s\nwant %+v", what, told(x.p), all)
	}
	for i := range l {
		if l[i] != all[i] {
			t.Fatalf("%s: %+v\nwant %+v", what, l[i], all[i])
		}
	}
}

// sameDriver does so for the driver, too.
func (x *pair) sameDriver(t *testing.T) {
	t.Helper()
	l, volumes := x.p.Volumes(), x.m.c.Volumes()
	s, snaps := x.p.Snaps(), x.m.c.Snaps()
	sent, calls := x.p.Sent(), x.m.c.Sent()
	if len(l) != len(volumes) || len(s) != len(snaps) || len(sent) != len(calls) {
		t.Fatalf("%s\nwant %+v %+v", told(x.p), volumes, snaps)
	}
	for i := range l {
		if l[i].Name != volumes[i].Name || l[i].Size != volumes[i].Size || l[i].Tag != volumes[i].Tag || len(l[i].Nodes) != len(volumes[i].Nodes) {
			t.Fatalf("%+v; want %+v", l[i], volumes[i])
		}
	}
	for i := range s {
		if s[i] != snaps[i] {
			t.Fatalf("%+v; want %+v", s[i], snaps[i])
		}
	}
	for i := range sent {
		if sent[i] != calls[i] {
			t.Fatalf("%+v; want %+v", sent[i], calls[i])
		}
	}
}

func (x *pair) step(t *testing.T, c, replica int, o api.Outcome) {
	t.Helper()
	a, e := x.p.Step(plane.Part(c), replica, o)
	b, f := x.m.step(c, replica, o)
	if a != b {
		t.Fatalf("Step(%d, %d, %d): %+v\nwant %+v", c, replica, o, a, b)
	}
	x.same(t, "Step", e, f)
}

func (x *pair) elect(t *testing.T, c, replica int) {
	t.Helper()
	x.same(t, "Elect", x.p.Elect(plane.Part(c), replica), x.m.elect(c, replica))
}

func (x *pair) create(t *testing.T, o api.Object) {
	t.Helper()
	x.same(t, "Create", x.p.Create(o), x.m.create(o))
}

func (x *pair) tick(t *testing.T, n int) {
	t.Helper()
	x.m.now += uint64(n)
	x.same(t, "Tick", x.p.Tick(n), api.OK)
}

func (x *pair) user(t *testing.T, r *rand.Rand) {
	t.Helper()
	n, other := strconv.Itoa(r.Intn(4)), strconv.Itoa(r.Intn(5))
	switch r.Intn(8) {
	case 0, 1, 2:
		x.create(t, anObject(r))
	case 3, 4:
		x.same(t, "Place", x.p.Place("p"+n, "n"+other), x.m.place("p"+n, "n"+other))
	case 5:
		size := int64(r.Intn(20))
		x.same(t, "Grow", x.p.Grow("c"+n, size), x.m.grow("c"+n, size))
	case 6:
		for _, v := range x.p.Volumes() {
			tag := uint64(1 + r.Intn(9))
			x.same(t, "Put", x.p.Put(v.Name, "n"+n, tag), x.m.c.Put(v.Name, "n"+n, tag))
		}
	case 7:
		k := object.Key(anObject(r))
		x.same(t, "Delete", x.p.Delete(k), x.m.s.Delete(k))
	}
}

func (x *pair) mishap(t *testing.T, r *rand.Rand) {
	t.Helper()
	c, replica := r.Intn(3), r.Intn(2)
	switch r.Intn(6) {
	case 0:
		x.m.seats[c][replica] = newSeat()
		x.same(t, "Crash", x.p.Crash(plane.Part(c), replica), api.OK)
	case 1:
		o, keep, torn := anObject(r), r.Intn(4)-1, r.Intn(66)
		x.same(t, "Power", x.p.Power(o, keep, torn), x.m.power(o, keep, torn))
	case 2:
		x.m.addAll(c, x.m.seats[c][replica])
		x.same(t, "Resync", x.p.Resync(plane.Part(c), replica), api.OK)
	case 3:
		x.tick(t, 1+r.Intn(12))
	case 4:
		i := r.Intn(len(x.m.c.Sent())+2) - 1
		x.same(t, "Again", x.p.Again(i), x.m.c.Again(i))
	case 5:
		other := x.p
		x.p = other.Fork()
		spoil(other)
	}
}

// P15.1 to P15.4, P15.2 above all: a plane does just what the chapter says, in whatever order it is asked.
func TestModel(t *testing.T) {
	for seed := range 150 {
		r := rand.New(rand.NewSource(int64(seed)))
		x := newPair(api.Zone{Name: "a", Room: 60}, api.Zone{Name: "b", Room: 20})
		for range 60 {
			x.user(t, r)
			if r.Intn(3) == 0 {
				x.mishap(t, r)
			}
			for range r.Intn(12) {
				c, replica := r.Intn(3), r.Intn(2)
				if r.Intn(3) > 0 {
					x.elect(t, c, replica)
				}
				x.step(t, c, replica, api.Outcome(r.Intn(4)*r.Intn(2)))
			}
			if r.Intn(4) == 0 {
				x.tick(t, 1+r.Intn(3))
			}
			x.sameDriver(t)
		}
	}
}

// P15.2, P5: more keys than may wait, most of them of what is gone.
func TestModelCrowd(t *testing.T) {
	x := newPair(api.Zone{Name: "a", Room: 1000})
	x.elect(t, 0, 0)
	for _, prefix := range []string{"a", "b", "c"} {
		for i := range api.MaxObjects {
			x.create(t, api.Object{Kind: api.Claim, Name: prefix + strconv.Itoa(i), Class: "f", Size: 1})
		}
		x.step(t, 0, 0, api.Done)
		for _, o := range x.p.Objects() {
			x.same(t, "Delete", x.p.Delete(object.Key(o)), x.m.s.Delete(object.Key(o)))
		}
		for range api.MaxObjects {
			x.step(t, 0, 0, api.Done)
		}
	}
	for range 2 * api.MaxKeys {
		x.step(t, 0, 0, api.Done)
	}
	if len(x.p.Objects()) != 0 {
		t.Errorf("%+v", x.p.Objects())
	}
}

// P15.2: what can't be done is tried till the log is full, and then later and later.
func TestModelFull(t *testing.T) {
	x := newPair(api.Zone{Name: "a", Room: 3})
	x.create(t, api.Object{Kind: api.Class, Name: "f", Zone: "a"})
	for i := range 9 {
		x.create(t, api.Object{Kind: api.Claim, Name: "c" + strconv.Itoa(i), Class: "f", Size: int64(1 + i)})
	}
	for range 7000 {
		x.elect(t, 0, 0)
		x.step(t, 0, 0, api.Done)
		x.tick(t, 1)
	}
	x.sameDriver(t)
	is(t, x.p.Create(node), api.ErrFull)
}

// P15.2: what is lost is asked again, till no call can be sent any more.
func TestModelLost(t *testing.T) {
	x := newPair(api.Zone{Name: "a", Room: 100})
	x.create(t, api.Object{Kind: api.Class, Name: "f", Zone: "a"})
	for i := range 3 {
		x.create(t, api.Object{Kind: api.Claim, Name: "c" + strconv.Itoa(i), Class: "f", Size: 1})
	}
	for range 4200 {
		x.elect(t, 0, 1)
		x.step(t, 0, 1, api.LateLost)
		x.tick(t, 30)
	}
	if n := len(x.p.Sent()); n != api.MaxCalls*16 || len(x.p.Volumes()) != 0 {
		t.Errorf("%d calls, %+v", n, x.p.Volumes())
	}
	x.sameDriver(t)
	x.create(t, volume)
	is(t, x.p.Create(volume), api.ErrFull)
}
