package call_test

import (
	"math"
	"math/rand"
	"reflect"
	"slices"
	"strconv"
	"strings"
	"testing"

	"wharfinger/api"
	"wharfinger/call"
	"wharfinger/driver"
)

// two is a client of two zones: a of room 20, b of room 5.
func two(t *testing.T) *call.Client {
	t.Helper()
	c := call.New(twoZones()...)
	if c == nil {
		t.Fatal("nil")
	}
	return c
}

func twoZones() []api.Zone {
	return []api.Zone{{Name: "a", Room: 20}, {Name: "b", Room: 5}}
}

func create(target string, num uint64, size int64) api.Call {
	return api.Call{Verb: api.Create, Target: target, Num: num, Size: size, Zone: "a"}
}

func erase(target string, num uint64) api.Call {
	return api.Call{Verb: api.Erase, Target: target, Num: num}
}

func publish(target string, num uint64, node string) api.Call {
	return api.Call{Verb: api.Publish, Target: target, Num: num, Node: node}
}

func unpublish(target string, num uint64, node string) api.Call {
	return api.Call{Verb: api.Unpublish, Target: target, Num: num, Node: node}
}

func expand(target string, num uint64, size int64) api.Call {
	return api.Call{Verb: api.Expand, Target: target, Num: num, Size: size}
}

func cut(target string, num uint64, source string) api.Call {
	return api.Call{Verb: api.Cut, Target: target, Num: num, Source: source}
}

func drop(target string, num uint64) api.Call {
	return api.Call{Verb: api.Drop, Target: target, Num: num}
}

func failed(e api.Errno) api.Result { return api.Result{Err: e} }

// state is all that a client tells of itself.
type state struct {
	sent    []api.Call
	volumes []api.DriverVolume
	snaps   []api.DriverSnap
	a, b    int64
}

func stateOf(c *call.Client) state {
	a, _ := c.Room("a")
	b, _ := c.Room("b")
	return state{c.Sent(), c.Volumes(), c.Snaps(), a, b}
}

func same(t *testing.T, c *call.Client, want state) {
	t.Helper()
	if s := stateOf(c); !reflect.DeepEqual(s, want) {
		t.Fatalf("%+v; want %+v", s, want)
	}
}

// sends holds a client to what a call comes to.
func sends(t *testing.T, c *call.Client, x api.Call, o api.Outcome, want api.Result) {
	t.Helper()
	if r := c.Send(x, o); r != want {
		t.Fatalf("Send(%+v, %d) = %+v; want %+v", x, o, r, want)
	}
}

func again(t *testing.T, c *call.Client, i int, want api.Errno) {
	t.Helper()
	if e := c.Again(i); e != want {
		t.Fatalf("Again(%d) = %d; want %d", i, e, want)
	}
}

func sent(t *testing.T, c *call.Client, want ...api.Call) {
	t.Helper()
	if l := c.Sent(); !slices.Equal(l, want) {
		t.Fatalf("Sent %+v; want %+v", l, want)
	}
}

func volumes(t *testing.T, c *call.Client, want ...string) {
	t.Helper()
	var names []string
	for _, v := range c.Volumes() {
		names = append(names, v.Name)
	}
	if !slices.Equal(names, want) {
		t.Fatalf("volumes %v; want %v", names, want)
	}
}

func room(t *testing.T, c *call.Client, want int64) {
	t.Helper()
	if n, ok := c.Room("a"); n != want || !ok {
		t.Fatalf("Room(a) = %d, %v; want %d", n, ok, want)
	}
}

// P11.1: nil, where a driver is.
func TestNew(t *testing.T) {
	var many []api.Zone
	for i := range 18 {
		zones := slices.Clone(many)
		if (call.New(zones...) != nil) != (i >= 1 && i <= 16) {
			t.Errorf("of %d zones", i)
		}
		many = append(many, api.Zone{Name: "z" + strconv.Itoa(i), Room: 1})
	}
	for _, z := range []api.Zone{
		{Name: "a"}, {Name: "a", Room: api.MaxSize}, {Name: "a/b.c#d-0", Room: 3}, {Name: strings.Repeat("a", 40)},
		{}, {Name: "A"}, {Name: "a b"}, {Name: "\xff"}, {Name: strings.Repeat("a", 41)}, {Name: "good"},
		{Name: "a", Room: -1}, {Name: "a", Room: api.MaxSize + 1}, {Name: "a", Room: math.MinInt64},
	} {
		zones := []api.Zone{{Name: "good", Room: 1}, z}
		c := call.New(zones...)
		if want := driver.New(zones...) != nil; (c != nil) != want {
			t.Errorf("zone %+v: %v", z, c != nil)
		}
		if c == nil {
			continue
		}
		if n, ok := c.Room(z.Name); n != z.Room || !ok {
			t.Errorf("room of %+v: %d, %v", z, n, ok)
		}
		sent(t, c)
		volumes(t, c)
	}
}

// P11.1: of each outcome: what is answered, and whether it is done.
func TestOutcomes(t *testing.T) {
	for _, x := range []struct {
		o    api.Outcome
		want api.Result
		done bool
	}{
		{api.Done, api.Result{Size: 8, Zone: "a"}, true},
		{api.Refused, failed(api.ErrBusy), false},
		{api.LateDone, failed(api.ErrLost), true},
		{api.LateLost, failed(api.ErrLost), false},
	} {
		c := two(t)
		sends(t, c, create("v", 1, 8), x.o, x.want)
		sent(t, c, create("v", 1, 8))
		if x.done {
			volumes(t, c, "v")
			room(t, c, 12)
		} else {
			volumes(t, c)
			room(t, c, 20)
		}
	}
}

// P11.1: what the driver answers is told of what is Done, errors too, and of nothing else.
func TestOutcomesOfErrors(t *testing.T) {
	c := two(t)
	sends(t, c, create("v", 5, 8), api.Done, api.Result{Size: 8, Zone: "a"})
	sends(t, c, publish("v", 6, "n"), api.Done, api.Result{})
	for _, x := range []struct {
		call api.Call
		want api.Errno
	}{
		{expand("v", 5, 9), api.ErrStale},
		{publish("v", 6, "m"), api.ErrConflict},
		{create("w", 1, 13), api.ErrSpace},
		{create("v", 7, 9), api.ErrSmall},
		{cut("s", 1, "w"), api.ErrNone},
		{erase("v", 8), api.ErrBusy},
	} {
		for _, o := range []api.Outcome{api.LateDone, api.Refused, api.LateLost, api.Done} {
			f := c.Fork()
			want := map[api.Outcome]api.Errno{api.Done: x.want, api.Refused: api.ErrBusy, api.LateDone: api.ErrLost, api.LateLost: api.ErrLost}[o]
			before := stateOf(f)
			sends(t, f, x.call, o, failed(want))
			before.sent = append(before.sent, x.call)
			same(t, f, before)
		}
	}
}

// P11.1: what was LateDone was done, as can be told by what it comes to the next time.
func TestLateDoneOfErrors(t *testing.T) {
	c := two(t)
	sends(t, c, cut("s", 4, "v"), api.LateDone, failed(api.ErrLost)) // there is no v
	sends(t, c, create("v", 1, 8), api.Done, api.Result{Size: 8, Zone: "a"})
	sends(t, c, cut("s", 4, "v"), api.Done, failed(api.ErrNone))
	sends(t, c, cut("s", 3, "v"), api.Done, failed(api.ErrStale))
	for _, o := range []api.Outcome{api.Refused, api.LateLost} {
		d := two(t)
		sends(t, d, create("v", 1, 8), api.Done, api.Result{Size: 8, Zone: "a"})
		sends(t, d, cut("s", 4, "v"), o, map[api.Outcome]api.Result{api.Refused: failed(api.ErrBusy), api.LateLost: failed(api.ErrLost)}[o])
		sends(t, d, cut("s", 3, "v"), api.Done, api.Result{Size: 8})
	}
}

// P11.1: calls that are not right, and outcomes that are none, are not sent.
func TestSendOfWrongForm(t *testing.T) {
	c := two(t)
	sends(t, c, create("v", 1, 8), api.Done, api.Result{Size: 8, Zone: "a"})
	before := stateOf(c)
	for _, x := range []api.Call{
		{}, create("", 2, 8), create("A", 2, 8), create("w", 0, 8), create("w", 2, 0), create("w", 2, -1), create("w", 2, api.MaxSize+1),
		{Verb: api.NoVerb, Target: "v", Num: 2}, {Verb: 8, Target: "v", Num: 2}, {Verb: 255, Target: "v", Num: 2},
		{Verb: api.Erase, Target: "v", Num: 2, Size: 1}, {Verb: api.Drop, Target: "v", Num: 2, Node: "n"},
		publish("v", 2, ""), publish("v", 2, "N"), unpublish("v", 2, ""), expand("v", 2, 0), expand("v", 2, -9), cut("s", 2, ""),
		create(strings.Repeat("a", 41), 2, 8), {Verb: api.Create, Target: "w", Num: 2, Size: 8},
	} {
		for o := range 256 {
			sends(t, c, x, api.Outcome(o), failed(api.ErrForm))
		}
	}
	for o := 4; o < 256; o++ {
		sends(t, c, create("w", 2, 8), api.Outcome(o), failed(api.ErrForm))
		sends(t, c, erase("v", 2), api.Outcome(o), failed(api.ErrForm))
	}
	same(t, c, before)
	again(t, c, 1, api.ErrRange)
}

// P11.1: no more are sent than may be, whatever became of them; what was sent can be delivered once more.
func TestFull(t *testing.T) {
	c := two(t)
	for i := range 16 * api.MaxCalls {
		o := api.Outcome(i % 4)
		r := c.Send(publish("v", uint64(i+1), "n"), o)
		if r.Err == api.ErrFull || r.Err == api.ErrForm {
			t.Fatalf("%d: %+v", i, r)
		}
	}
	before := stateOf(c)
	if len(before.sent) != 4096 || before.sent[4095].Num != 4096 {
		t.Fatalf("%d were sent", len(before.sent))
	}
	for o := range 4 {
		sends(t, c, create("w", 1, 8), api.Outcome(o), failed(api.ErrFull))
		sends(t, c, api.Call{}, api.Outcome(o), failed(api.ErrForm))
	}
	sends(t, c, create("w", 1, 8), 4, failed(api.ErrForm))
	same(t, c, before)
	again(t, c, 4095, api.ErrNone)
	again(t, c, 4096, api.ErrRange)
	f := c.Fork()
	sends(t, f, create("w", 1, 8), api.Done, failed(api.ErrFull))
}

// P11.1: the i-th one from 0, and none besides.
func TestAgain(t *testing.T) {
	c := two(t)
	for _, i := range []int{0, 1, -1, math.MinInt, math.MaxInt} {
		again(t, c, i, api.ErrRange)
	}
	sends(t, c, create("v", 1, 8), api.LateLost, failed(api.ErrLost))
	sends(t, c, create("w", 1, 7), api.Refused, failed(api.ErrBusy))
	sends(t, c, create("x", 1, 6), api.LateDone, failed(api.ErrLost))
	before := stateOf(c)
	for _, i := range []int{3, 4, -1, -3, math.MinInt, math.MaxInt} {
		again(t, c, i, api.ErrRange)
	}
	same(t, c, before)
	volumes(t, c, "x")
	again(t, c, 1, api.OK)
	volumes(t, c, "w", "x")
	again(t, c, 2, api.OK)
	again(t, c, 1, api.OK)
	volumes(t, c, "w", "x")
	room(t, c, 7)
	again(t, c, 0, api.ErrSpace)
	volumes(t, c, "w", "x")
	if l := c.Sent(); !slices.Equal(l, before.sent) {
		t.Errorf("what is delivered once more is sent: %+v", l)
	}
	again(t, c, 3, api.ErrRange)
}

// P11.1, P11.4: what is delivered once more has the driver's error, and behind a newer one of its target it changes nothing.
func TestAgainOfWhatIsOlder(t *testing.T) {
	c := two(t)
	steps := []api.Call{create("v", 1, 8), publish("v", 2, "n"), cut("s", 1, "v"), expand("v", 3, 9), unpublish("v", 4, "n"), erase("v", 5), drop("s", 2)}
	for _, x := range steps {
		if r := c.Send(x, api.Done); r.Err != api.OK {
			t.Fatalf("%+v: %+v", x, r)
		}
	}
	before := stateOf(c)
	for i, want := range []api.Errno{api.ErrStale, api.ErrStale, api.ErrStale, api.ErrStale, api.ErrStale, api.OK, api.OK} {
		again(t, c, i, want)
		same(t, c, before)
	}
	sends(t, c, create("v", 6, 2), api.Done, api.Result{Size: 2, Zone: "a"})
	before = stateOf(c)
	again(t, c, 5, api.ErrStale)
	same(t, c, before)
	sends(t, c, create("v", 6, 3), api.LateLost, failed(api.ErrLost))
	again(t, c, 8, api.ErrConflict)
}

// P11.2: in the order in which they were sent, each as often as it was.
func TestSent(t *testing.T) {
	c := two(t)
	sent(t, c)
	x, y, z := create("v", 9, 8), erase("w", 2), cut("s", 1, "v")
	sends(t, c, x, api.LateLost, failed(api.ErrLost))
	sends(t, c, z, api.Done, failed(api.ErrNone))
	sends(t, c, x, api.Done, api.Result{Size: 8, Zone: "a"})
	sends(t, c, y, api.Refused, failed(api.ErrBusy))
	sends(t, c, x, api.LateDone, failed(api.ErrLost))
	sent(t, c, x, z, x, y, x)
}

// P11.2: what is in it, what there is, and how much room, are the driver's.
func TestOfTheDriver(t *testing.T) {
	c, d := two(t), driver.New(twoZones()...)
	for _, x := range []api.Call{
		create("w", 1, 8), create("v", 1, 3), cut("t", 1, "w"), cut("s", 1, "v"), publish("v", 2, "n"), publish("v", 3, "m"), expand("v", 4, 4),
		{Verb: api.Create, Target: "x", Num: 1, Size: 5, Zone: "b"},
	} {
		sends(t, c, x, api.Done, d.Do(x))
	}
	for _, x := range []struct {
		volume, node string
		want         api.Errno
	}{{"v", "n", api.OK}, {"v", "o", api.ErrBusy}, {"w", "n", api.ErrBusy}, {"s", "n", api.ErrNone}, {"", "", api.ErrNone}, {"\xff", "n", api.ErrNone}} {
		if e := c.Put(x.volume, x.node, 7); e != x.want || d.Put(x.volume, x.node, 7) != e {
			t.Errorf("Put(%q, %q) = %d; want %d", x.volume, x.node, e, x.want)
		}
	}
	if !reflect.DeepEqual(c.Volumes(), d.Volumes()) || !reflect.DeepEqual(c.Snaps(), d.Snaps()) || c.Volumes()[0].Tag != 7 {
		t.Errorf("%+v %+v; want %+v %+v", c.Volumes(), c.Snaps(), d.Volumes(), d.Snaps())
	}
	for _, zone := range []string{"a", "b", "c", ""} {
		n, ok := c.Room(zone)
		if want, isZone := d.Room(zone); n != want || ok != isZone {
			t.Errorf("Room(%q) = %d, %v", zone, n, ok)
		}
	}
	if len(c.Sent()) != 8 {
		t.Error("a Put is sent")
	}
}

// P11.3: lost any number of times, before or behind its being done, it is done once.
func TestLostAndSentAgain(t *testing.T) {
	for ways := range 81 {
		c := two(t)
		for w, i := ways, 0; i < 4; w, i = w/3, i+1 {
			o := []api.Outcome{api.Refused, api.LateDone, api.LateLost}[w%3]
			if r := c.Send(create("v", 1, 8), o); r.Err == api.OK {
				t.Fatalf("%+v", r)
			}
		}
		sends(t, c, create("v", 1, 8), api.Done, api.Result{Size: 8, Zone: "a"})
		again(t, c, ways%5, api.OK)
		volumes(t, c, "v")
		room(t, c, 12)
	}
}

// P4
func TestFork(t *testing.T) {
	c := two(t)
	sends(t, c, create("v", 1, 8), api.Done, api.Result{Size: 8, Zone: "a"})
	sends(t, c, create("w", 1, 2), api.LateLost, failed(api.ErrLost))
	sends(t, c, publish("v", 2, "n"), api.Done, api.Result{})
	before := stateOf(c)
	f := c.Fork()
	same(t, f, before)
	sends(t, f, erase("w", 2), api.Done, api.Result{})
	sends(t, f, publish("v", 3, "m"), api.Done, api.Result{})
	if f.Put("v", "m", 9) != api.OK {
		t.Error("Put")
	}
	same(t, c, before)
	forked := stateOf(f)
	sends(t, c, cut("s", 1, "v"), api.Done, api.Result{Size: 8})
	again(t, c, 1, api.OK)
	same(t, f, forked)
	again(t, f, 1, api.ErrStale)
	if l := c.Sent(); len(l) != 4 || l[3] != cut("s", 1, "v") {
		t.Errorf("%+v", l)
	}
	if l := f.Sent(); len(l) != 5 || l[3] != erase("w", 2) {
		t.Errorf("%+v", l)
	}
}

// P4: what the one sends is not written over what the other one sent, however many there were.
func TestForkOfSent(t *testing.T) {
	var l []api.Call
	c := two(t)
	for i := range 40 {
		f := c.Fork()
		x, y := erase("x", uint64(i+1)), erase("y", uint64(i+1))
		sends(t, f, y, api.LateLost, failed(api.ErrLost))
		sends(t, c, x, api.LateLost, failed(api.ErrLost))
		sent(t, f, append(slices.Clone(l), y)...)
		l = append(l, x)
		sent(t, c, l...)
	}
}

// P3: what is answered is no part of the client, and what is handed in stays as it is.
func TestMemory(t *testing.T) {
	zones := twoZones()
	c := call.New(zones...)
	if !slices.Equal(zones, twoZones()) {
		t.Errorf("zones %+v", zones)
	}
	zones[0].Room, zones[1].Name = 0, "x"
	sends(t, c, create("v", 1, 8), api.Done, api.Result{Size: 8, Zone: "a"})
	sends(t, c, cut("s", 1, "v"), api.Done, api.Result{Size: 8})
	sends(t, c, publish("v", 2, "n"), api.Done, api.Result{})
	want := stateOf(c)
	want.sent, want.volumes, want.snaps = slices.Clone(want.sent), slices.Clone(want.volumes), slices.Clone(want.snaps)
	want.volumes[0].Nodes = slices.Clone(want.volumes[0].Nodes)
	s := stateOf(c)
	_ = append(s.sent[:1], erase("x", 1), erase("x", 2), erase("x", 3))
	s.sent[0], s.volumes[0].Nodes[0], s.volumes[0].Name, s.snaps[0].Tag = api.Call{}, "x", "y", 9
	l := c.Sent()
	l = append(l, erase("z", 9))
	sends(t, c, drop("t", 1), api.Done, api.Result{})
	if l[3] != erase("z", 9) {
		t.Error("what was answered changes")
	}
	want.sent = append(want.sent, drop("t", 1))
	same(t, c, want)
}

// P1
func TestNil(t *testing.T) {
	var c *call.Client
	for o := range 6 {
		sends(t, c, create("v", 1, 8), api.Outcome(o), failed(api.ErrNil))
		sends(t, c, api.Call{}, api.Outcome(o), failed(api.ErrNil))
	}
	again(t, c, 0, api.ErrNil)
	again(t, c, -1, api.ErrNil)
	if e := c.Put("v", "n", 1); e != api.ErrNil {
		t.Errorf("Put: %d", e)
	}
	if c.Sent() != nil || c.Volumes() != nil || c.Snaps() != nil || c.Fork() != nil {
		t.Error("a nil client has something")
	}
	if n, ok := c.Room("a"); n != 0 || ok {
		t.Errorf("Room = %d, %v", n, ok)
	}
}

// pair is a client, a driver to which is done what should come through, and what was sent.
type pair struct {
	c    *call.Client
	d    *driver.Driver
	sent []api.Call
}

func newPair() *pair {
	zones := []api.Zone{{Name: "b", Room: 40}, {Name: "a", Room: 100}}
	return &pair{call.New(zones...), driver.New(zones...), nil}
}

func (p *pair) send(t *testing.T, x api.Call, o api.Outcome) {
	t.Helper()
	want := failed(api.ErrForm)
	if driver.Right(x) && o <= 3 {
		p.sent = append(p.sent, x)
		want = failed([]api.Errno{api.OK, api.ErrBusy, api.ErrLost, api.ErrLost}[o])
		if o == api.Done || o == api.LateDone {
			if r := p.d.Do(x); o == api.Done {
				want = r
			}
		}
	}
	sends(t, p.c, x, o, want)
	p.same(t)
}

func (p *pair) again(t *testing.T, i int) {
	t.Helper()
	want := api.ErrRange
	if i >= 0 && i < len(p.sent) {
		want = p.d.Do(p.sent[i]).Err
	}
	again(t, p.c, i, want)
	p.same(t)
}

func (p *pair) put(t *testing.T, volume, node string, tag uint64) {
	t.Helper()
	if e := p.c.Put(volume, node, tag); e != p.d.Put(volume, node, tag) {
		t.Fatalf("Put(%s, %s) = %d", volume, node, e)
	}
	p.same(t)
}

func (p *pair) same(t *testing.T) {
	t.Helper()
	a, _ := p.d.Room("a")
	b, _ := p.d.Room("b")
	same(t, p.c, state{slices.Clone(p.sent), p.d.Volumes(), p.d.Snaps(), a, b})
}

// callOf is a call made of numbers; a few are not right.
func callOf(verb, target, other, num, size int) api.Call {
	c := api.Call{Verb: api.Verb(1 + verb%7), Target: "v" + strconv.Itoa(target), Num: uint64(num)}
	switch c.Verb {
	case api.Create:
		c.Size, c.Zone = int64(size), string("aabz"[other%4])
		if other%3 == 0 {
			c.Source = "v" + strconv.Itoa(other)
		}
	case api.Publish, api.Unpublish:
		c.Node = "n" + strconv.Itoa(other%3)
	case api.Expand:
		c.Size = int64(size)
	case api.Cut:
		c.Source = "v" + strconv.Itoa(other)
	}
	return c
}

// P11.1 to P11.4: whatever goes astray, and comes late.
func TestAnyOrder(t *testing.T) {
	r := rand.New(rand.NewSource(11))
	for range 30 {
		p := newPair()
		for i := range 120 {
			x := callOf(r.Intn(7), r.Intn(4), r.Intn(4), r.Intn(i+2), r.Intn(20))
			p.send(t, x, api.Outcome(r.Intn(5)))
			p.send(t, x, api.Outcome(r.Intn(4)))
			p.again(t, r.Intn(i+3)-1)
			p.put(t, "v"+strconv.Itoa(r.Intn(4)), "n"+strconv.Itoa(r.Intn(3)), uint64(i))
			if r.Intn(9) == 0 {
				p.c = p.c.Fork()
			}
		}
	}
}

// P11.1 to P11.4
func FuzzClient(f *testing.F) {
	f.Add([]byte{0, 1, 1, 1, 7, 3, 0, 1, 1, 1, 7, 0, 2, 1, 1, 2, 0, 2, 7, 0, 0, 0, 0, 0, 8, 1, 1, 0, 0, 0})
	f.Add([]byte{0, 1, 3, 9, 9, 1, 4, 1, 0, 1, 30, 2, 7, 1, 0, 0, 0, 0, 5, 2, 1, 0, 20, 4, 6, 1, 0, 0, 0, 2})
	f.Fuzz(func(t *testing.T, ops []byte) {
		p := newPair()
		for op := range slices.Chunk(ops[:min(len(ops), 600)], 6) {
			if len(op) < 6 {
				break
			}
			switch op[0] % 9 {
			case 7:
				p.again(t, int(int8(op[1])))
			case 8:
				p.put(t, "v"+strconv.Itoa(int(op[1]%6)), "n"+strconv.Itoa(int(op[2]%3)), uint64(op[3]))
			default:
				p.send(t, callOf(int(op[0]%9), int(op[1]%6), int(op[2]), int(op[3]), int(op[4])), api.Outcome(op[5]%6))
			}
		}
	})
}
