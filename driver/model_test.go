package driver_test

import (
	"math/rand"
	"slices"
	"strconv"
	"strings"
	"testing"

	"wharfinger/api"
	"wharfinger/driver"
)

// model is a driver as the chapter tells it, in lists: its room, volumes, snapshots, and of each target the last call.
type model struct {
	room    map[string]int64
	volumes []api.DriverVolume
	snaps   []api.DriverSnap
	last    []answered
}

type answered struct {
	call   api.Call
	result api.Result
}

func snapVerb(v api.Verb) bool { return v == api.Cut || v == api.Drop }

func (m *model) volume(name string) *api.DriverVolume {
	for i := range m.volumes {
		if m.volumes[i].Name == name {
			return &m.volumes[i]
		}
	}
	return nil
}

func (m *model) snap(name string) *api.DriverSnap {
	for i := range m.snaps {
		if m.snaps[i].Name == name {
			return &m.snaps[i]
		}
	}
	return nil
}

// before is the last call of a verb's target.
func (m *model) before(v api.Verb, target string) *answered {
	for i := range m.last {
		if x := m.last[i].call; x.Target == target && snapVerb(x.Verb) == snapVerb(v) {
			return &m.last[i]
		}
	}
	return nil
}

func (m *model) do(c api.Call) api.Result {
	last := m.before(c.Verb, c.Target)
	if last == nil {
		if len(m.last) == 256 {
			return failed(api.ErrFull)
		}
		m.last = append(m.last, answered{c, m.perform(c)})
		return m.last[len(m.last)-1].result
	}
	if c.Num > last.call.Num {
		*last = answered{c, m.perform(c)}
		return last.result
	}
	if c.Num < last.call.Num {
		return failed(api.ErrStale)
	}
	if c != last.call {
		return failed(api.ErrConflict)
	}
	return last.result
}

func (m *model) perform(c api.Call) api.Result {
	v := m.volume(c.Target)
	switch c.Verb {
	case api.Create:
		return m.create(c, v)
	case api.Erase:
		if v != nil && len(v.Nodes) > 0 {
			return failed(api.ErrBusy)
		}
		if v != nil {
			m.room[v.Zone] += v.Size
			m.volumes = slices.DeleteFunc(m.volumes, func(x api.DriverVolume) bool { return x.Name == c.Target })
		}
	case api.Publish:
		if v == nil {
			return failed(api.ErrNone)
		}
		if !slices.Contains(v.Nodes, c.Node) {
			v.Nodes = append(v.Nodes, c.Node)
			slices.Sort(v.Nodes)
		}
	case api.Unpublish:
		if v != nil {
			v.Nodes = slices.DeleteFunc(v.Nodes, func(n string) bool { return n == c.Node })
		}
	case api.Expand:
		return m.expand(c.Size, v)
	case api.Cut:
		return m.cut(c)
	case api.Drop:
		m.snaps = slices.DeleteFunc(m.snaps, func(s api.DriverSnap) bool { return s.Name == c.Target })
	}
	return api.Result{}
}

func (m *model) create(c api.Call, v *api.DriverVolume) api.Result {
	if v != nil && v.Size < c.Size {
		return failed(api.ErrSmall)
	}
	if v != nil {
		return api.Result{Size: v.Size, Zone: v.Zone, Tag: v.Tag}
	}
	room, ok := m.room[c.Zone]
	if !ok {
		return failed(api.ErrNone)
	}
	var size int64
	var tag uint64
	if s := m.snap(c.Source); s != nil {
		size, tag = s.Size, s.Tag
	} else if s := m.volume(c.Source); s != nil {
		size, tag = s.Size, s.Tag
	} else if c.Source != "" {
		return failed(api.ErrNone)
	}
	if size > c.Size {
		return failed(api.ErrSmall)
	}
	if len(m.volumes) == 64 {
		return failed(api.ErrFull)
	}
	if room < c.Size {
		return failed(api.ErrSpace)
	}
	m.room[c.Zone] = room - c.Size
	m.volumes = append(m.volumes, volume(c.Target, c.Size, c.Zone, tag))
	slices.SortFunc(m.volumes, func(a, b api.DriverVolume) int { return strings.Compare(a.Name, b.Name) })
	return api.Result{Size: c.Size, Zone: c.Zone, Tag: tag}
}

func (m *model) expand(size int64, v *api.DriverVolume) api.Result {
	if v == nil {
		return failed(api.ErrNone)
	}
	if v.Size < size && m.room[v.Zone] < size-v.Size {
		return failed(api.ErrSpace)
	}
	if v.Size < size {
		m.room[v.Zone] -= size - v.Size
		v.Size = size
	}
	return api.Result{Size: v.Size}
}

func (m *model) cut(c api.Call) api.Result {
	if s := m.snap(c.Target); s != nil {
		return api.Result{Size: s.Size, Tag: s.Tag}
	}
	v := m.volume(c.Source)
	if v == nil {
		return failed(api.ErrNone)
	}
	if len(m.snaps) == 64 {
		return failed(api.ErrFull)
	}
	m.snaps = append(m.snaps, api.DriverSnap{Name: c.Target, Size: v.Size, Tag: v.Tag})
	slices.SortFunc(m.snaps, func(a, b api.DriverSnap) int { return strings.Compare(a.Name, b.Name) })
	return api.Result{Size: v.Size, Tag: v.Tag}
}

func (m *model) put(volume, node string, tag uint64) api.Errno {
	v := m.volume(volume)
	if v == nil {
		return api.ErrNone
	}
	if !slices.Contains(v.Nodes, node) {
		return api.ErrBusy
	}
	v.Tag = tag
	return api.OK
}

// pair is a driver and its model, and what room each zone had at first.
type pair struct {
	d     *driver.Driver
	m     *model
	first map[string]int64
}

func newPair(a, b int64) *pair {
	rooms := map[string]int64{"a": a, "b": b}
	d := driver.New(api.Zone{Name: "b", Room: b}, api.Zone{Name: "a", Room: a})
	return &pair{d, &model{room: map[string]int64{"a": a, "b": b}}, rooms}
}

// do does a call at both; what was done again, or was older, may change nothing.
func (p *pair) do(t *testing.T, c api.Call) {
	t.Helper()
	before, was := stateOf(p.d), p.d.Seen(c.Verb, c.Target)
	r := p.d.Do(c)
	if want := p.m.do(c); r != want {
		t.Fatalf("Do(%+v) = %+v; want %+v", c, r, want)
	}
	if r.Err != api.OK || was >= c.Num {
		same(t, p.d, before)
	}
	for _, v := range before.volumes {
		if x := p.m.volume(v.Name); x != nil && x.Size < v.Size {
			t.Fatalf("%+v falls to %d by %+v", v, x.Size, c)
		}
	}
	if n, want := p.d.Seen(c.Verb, c.Target), p.m.before(c.Verb, c.Target); want == nil && n != 0 || want != nil && n != want.call.Num {
		t.Fatalf("Seen = %d behind %+v", n, c)
	}
	p.same(t)
}

func (p *pair) put(t *testing.T, volume, node string, tag uint64) {
	t.Helper()
	if e, want := p.d.Put(volume, node, tag), p.m.put(volume, node, tag); e != want {
		t.Fatalf("Put(%s, %s, %d) = %d; want %d", volume, node, tag, e, want)
	}
	p.same(t)
}

// same holds the driver to its model, and room and sizes to what they were, added.
func (p *pair) same(t *testing.T) {
	t.Helper()
	volumes(t, p.d, p.m.volumes...)
	snaps(t, p.d, p.m.snaps...)
	rooms(t, p.d, p.m.room["a"], p.m.room["b"])
	sum := map[string]int64{}
	for zone := range p.first {
		sum[zone], _ = p.d.Room(zone)
	}
	for _, v := range p.d.Volumes() {
		sum[v.Zone] += v.Size
	}
	for zone, want := range p.first {
		if sum[zone] != want {
			t.Fatalf("room and sizes of %s are %d, added; want %d", zone, sum[zone], want)
		}
	}
}

// callOf is a right call of a verb, made of numbers.
func callOf(verb, target, other, num, size int) api.Call {
	name := func(n int) string { return "v" + strconv.Itoa(n) }
	c := api.Call{Verb: api.Verb(1 + verb%7), Target: name(target), Num: uint64(1 + num)}
	switch c.Verb {
	case api.Create:
		c.Size, c.Zone = int64(1+size), string("aabbaabz"[other%8])
		if other%3 == 0 {
			c.Source = name(other)
		}
	case api.Publish, api.Unpublish:
		c.Node = name(other % 3)
	case api.Expand:
		c.Size = int64(1 + size)
	case api.Cut:
		c.Source = name(other)
	}
	return c
}

// P10.1 to P10.6: whatever comes behind whatever, late and doubled too.
func TestAnyOrder(t *testing.T) {
	r := rand.New(rand.NewSource(10))
	for round := range 40 {
		names := []int{2, 5, 12, 150}[round%4]
		p := newPair([]int64{30, 1000, 100000}[round%3], int64(r.Intn(60)))
		var sent []api.Call
		for i := range 500 {
			verb := []int{0, 0, 0, 1, 2, 2, 3, 4, 5, 5, 6}[r.Intn(11)]
			if names > 12 && r.Intn(3) > 0 { // it fills
				verb = []int{0, 5}[r.Intn(2)]
			}
			c := callOf(verb, r.Intn(names), r.Intn(names), i-r.Intn(min(i+1, 4)), r.Intn(20))
			sent = append(sent, c)
			p.do(t, c)
			p.put(t, "v"+strconv.Itoa(r.Intn(names)), "v"+strconv.Itoa(r.Intn(3)), uint64(i))
			p.do(t, sent[r.Intn(len(sent))])
			p.do(t, c)
			if r.Intn(9) == 0 {
				p.d = p.d.Fork()
			}
		}
	}
}

// P10.1 to P10.6
func FuzzDriver(f *testing.F) {
	f.Add([]byte{0, 1, 1, 0, 7, 2, 1, 2, 1, 0, 7, 1, 2, 9, 9, 5, 1, 1, 0, 0, 0, 2, 1, 0, 9, 3, 1, 2, 4, 0, 1, 1, 0, 5, 0})
	f.Add([]byte{0, 1, 3, 0, 9, 4, 1, 0, 1, 30, 4, 1, 0, 2, 12, 0, 2, 1, 0, 20, 6, 1, 0, 0, 0, 1, 1, 0, 3, 0, 0, 1, 0, 3, 5})
	f.Fuzz(func(t *testing.T, ops []byte) {
		p := newPair(40, 7)
		for op := range slices.Chunk(ops, 5) {
			if len(op) < 5 {
				break
			}
			c := callOf(int(op[0]%8), int(op[1]%6), int(op[2]), int(op[3]), int(op[4]))
			if op[0]%8 == 7 {
				p.put(t, c.Target, "v"+strconv.Itoa(int(op[2]%3)), uint64(op[4]))
			} else {
				p.do(t, c)
			}
		}
		for _, x := range slices.Clone(p.m.last) { // all of it once more
			p.do(t, x.call)
		}
	})
}
