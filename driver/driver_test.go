package driver_test

import (
	"math"
	"reflect"
	"slices"
	"strconv"
	"strings"
	"testing"

	"wharfinger/api"
	"wharfinger/driver"
)

// two is a driver of two zones: a of room 20, b of room 5.
func two(t *testing.T) *driver.Driver {
	t.Helper()
	d := driver.New(api.Zone{Name: "a", Room: 20}, api.Zone{Name: "b", Room: 5})
	if d == nil {
		t.Fatal("nil")
	}
	return d
}

func create(target string, num uint64, size int64, zone, source string) api.Call {
	return api.Call{Verb: api.Create, Target: target, Num: num, Size: size, Zone: zone, Source: source}
}

func erase(target string, num uint64) api.Call {
	return api.Call{Verb: api.Erase, Target: target, Num: num}
}

func publish(target string, num uint64, node string) api.Call {
	return api.Call{Verb: api.Publish, Target: target, Num: num, Node: node}
}

func unpublish(target string, num uint64, node string) api.Call {
	return api.Call{Verb: api.Unpublish, Target: target, Num: num, Node: node}
}

func expand(target string, num uint64, size int64) api.Call {
	return api.Call{Verb: api.Expand, Target: target, Num: num, Size: size}
}

func cut(target string, num uint64, source string) api.Call {
	return api.Call{Verb: api.Cut, Target: target, Num: num, Source: source}
}

func drop(target string, num uint64) api.Call {
	return api.Call{Verb: api.Drop, Target: target, Num: num}
}

func failed(e api.Errno) api.Result { return api.Result{Err: e} }

// does holds a driver to what a call comes to.
func does(t *testing.T, d *driver.Driver, c api.Call, want api.Result) {
	t.Helper()
	if r := d.Do(c); r != want {
		t.Fatalf("Do(%+v) = %+v; want %+v", c, r, want)
	}
}

// fails tells that a call has an error, and that nothing but what was done of its target changes.
func fails(t *testing.T, d *driver.Driver, c api.Call, want api.Errno) {
	t.Helper()
	before := stateOf(d)
	does(t, d, c, failed(want))
	same(t, d, before)
}

// state is all that a driver tells of what it has.
type state struct {
	volumes []api.DriverVolume
	snaps   []api.DriverSnap
	a, b    int64
}

func stateOf(d *driver.Driver) state {
	a, _ := d.Room("a")
	b, _ := d.Room("b")
	return state{d.Volumes(), d.Snaps(), a, b}
}

func same(t *testing.T, d *driver.Driver, want state) {
	t.Helper()
	if s := stateOf(d); !reflect.DeepEqual(s, want) {
		t.Fatalf("%+v; want %+v", s, want)
	}
}

func rooms(t *testing.T, d *driver.Driver, a, b int64) {
	t.Helper()
	for zone, want := range map[string]int64{"a": a, "b": b} {
		if n, ok := d.Room(zone); n != want || !ok {
			t.Fatalf("Room(%s) = %d, %v; want %d", zone, n, ok, want)
		}
	}
}

func volume(name string, size int64, zone string, tag uint64, nodes ...string) api.DriverVolume {
	return api.DriverVolume{Name: name, Size: size, Zone: zone, Tag: tag, Nodes: nodes}
}

func volumes(t *testing.T, d *driver.Driver, want ...api.DriverVolume) {
	t.Helper()
	if l := d.Volumes(); !slices.EqualFunc(l, want, sameVolume) {
		t.Fatalf("volumes %+v; want %+v", l, want)
	}
}

func sameVolume(a, b api.DriverVolume) bool {
	return a.Name == b.Name && a.Size == b.Size && a.Zone == b.Zone && a.Tag == b.Tag && slices.Equal(a.Nodes, b.Nodes)
}

func snaps(t *testing.T, d *driver.Driver, want ...api.DriverSnap) {
	t.Helper()
	if l := d.Snaps(); !slices.Equal(l, want) {
		t.Fatalf("snapshots %+v; want %+v", l, want)
	}
}

func seen(t *testing.T, d *driver.Driver, v api.Verb, target string, want uint64) {
	t.Helper()
	if n := d.Seen(v, target); n != want {
		t.Fatalf("Seen(%d, %s) = %d; want %d", v, target, n, want)
	}
}

func puts(t *testing.T, d *driver.Driver, volume, node string, tag uint64, want api.Errno) {
	t.Helper()
	before := stateOf(d)
	if e := d.Put(volume, node, tag); e != want {
		t.Fatalf("Put(%q, %q, %d) = %d; want %d", volume, node, tag, e, want)
	}
	if want != api.OK {
		same(t, d, before)
	}
}

// zones are n, of the names z0, z1, ..
func zones(n int) []api.Zone {
	var l []api.Zone
	for i := range n {
		l = append(l, api.Zone{Name: "z" + strconv.Itoa(i), Room: int64(i)})
	}
	return l
}

// P10.1
func TestNew(t *testing.T) {
	for n := range 20 {
		d := driver.New(zones(n)...)
		if (d != nil) != (n >= 1 && n <= 16) {
			t.Errorf("of %d zones: %v", n, d)
		}
		if d == nil {
			continue
		}
		volumes(t, d)
		snaps(t, d)
		for i := range n {
			if room, ok := d.Room("z" + strconv.Itoa(i)); room != int64(i) || !ok {
				t.Errorf("room of %d: %d, %v", i, room, ok)
			}
		}
		if room, ok := d.Room("z" + strconv.Itoa(n)); room != 0 || ok {
			t.Errorf("room of no zone: %d, %v", room, ok)
		}
	}
}

// P10.1: zones that may not be.
func TestNewOfWrongZones(t *testing.T) {
	good := api.Zone{Name: "good", Room: 1}
	for _, z := range []api.Zone{
		{}, {Room: 5}, {Name: "A"}, {Name: "a b"}, {Name: "\xff"}, {Name: strings.Repeat("a", 41)},
		{Name: "a", Room: -1}, {Name: "a", Room: api.MaxSize + 1}, {Name: "a", Room: math.MinInt64}, {Name: "a", Room: math.MaxInt64},
		{Name: "good", Room: 1}, {Name: "good", Room: 0},
	} {
		if driver.New(good, z) != nil || driver.New(z, good) != nil {
			t.Errorf("zone %+v is taken", z)
		}
		if driver.New(z) != nil && z.Name != "good" {
			t.Errorf("zone %+v alone is taken", z)
		}
	}
	for _, z := range []api.Zone{{Name: "a"}, {Name: "a", Room: api.MaxSize}, {Name: strings.Repeat("a", 40), Room: 1}, {Name: "a/b.c#d-0"}} {
		if d := driver.New(good, z); d == nil {
			t.Errorf("zone %+v is not taken", z)
		} else if room, ok := d.Room(z.Name); room != z.Room || !ok {
			t.Errorf("room of %+v: %d, %v", z, room, ok)
		}
	}
	twice := append(zones(15), api.Zone{Name: "z0", Room: 0})
	if driver.New(twice...) != nil {
		t.Error("one zone twice, far from each other, is taken")
	}
}

// rightCalls are one of each verb.
func rightCalls() []api.Call {
	return []api.Call{
		create("v", 1, 8, "a", ""), create("v", 1, 8, "a", "s"), erase("v", 1), publish("v", 1, "n"),
		unpublish("v", 1, "n"), expand("v", 1, 9), cut("s", 1, "v"), drop("s", 1),
	}
}

// right holds Right to an answer, and a driver to ErrForm of what is not right.
func right(t *testing.T, c api.Call, want bool) {
	t.Helper()
	if driver.Right(c) != want {
		t.Errorf("Right(%+v) = %v", c, !want)
	}
	d := two(t)
	r := d.Do(c)
	if want && r.Err == api.ErrForm || !want && r != failed(api.ErrForm) {
		t.Errorf("Do(%+v) = %+v; right: %v", c, r, want)
	}
	if !want && (d.Seen(c.Verb, c.Target) != 0 || len(d.Volumes()) > 0) {
		t.Errorf("%+v was done", c)
	}
}

// P10.1: what each verb needs, and what it may not have.
func TestRight(t *testing.T) {
	wrong := []string{"A", " ", "\xff", "a b", strings.Repeat("a", 41)}
	names := []string{"a", "pvc/a#7", "n.1-x", strings.Repeat("a", 40)}
	for _, c := range rightCalls() {
		right(t, c, true)
		for _, field := range []struct {
			set  func(c *api.Call, s string)
			has  bool // the verb has it
			none bool // it may be empty
		}{
			{func(c *api.Call, s string) { c.Target = s }, true, false},
			{func(c *api.Call, s string) { c.Zone = s }, c.Verb == api.Create, c.Verb != api.Create},
			{func(c *api.Call, s string) { c.Source = s }, c.Verb == api.Create || c.Verb == api.Cut, c.Verb != api.Cut},
			{func(c *api.Call, s string) { c.Node = s }, c.Verb == api.Publish || c.Verb == api.Unpublish, c.Verb != api.Publish && c.Verb != api.Unpublish},
		} {
			x := c
			for _, s := range names {
				field.set(&x, s)
				right(t, x, field.has)
			}
			for _, s := range wrong {
				field.set(&x, s)
				right(t, x, false)
			}
			field.set(&x, "")
			right(t, x, field.none)
		}
	}
}

// P10.1: numbers, sizes and verbs at their edges.
func TestRightNumbers(t *testing.T) {
	for _, c := range rightCalls() {
		x := c
		for _, num := range []uint64{0, 1, 2, 1 << 63, math.MaxUint64} {
			x.Num = num
			right(t, x, num != 0)
		}
		x = c
		sized := c.Verb == api.Create || c.Verb == api.Expand
		for _, size := range []int64{1, 7, api.MaxSize - 1, api.MaxSize} {
			x.Size = size
			right(t, x, sized)
		}
		x.Size = 0
		right(t, x, !sized)
		for _, size := range []int64{-1, math.MinInt64, api.MaxSize + 1, math.MaxInt64} {
			x.Size = size
			right(t, x, false)
		}
		x = c
		for _, verb := range []api.Verb{api.NoVerb, api.Drop + 1, 100, 255} {
			x.Verb = verb
			right(t, x, false)
			right(t, api.Call{Verb: verb, Target: "v", Num: 1}, false)
		}
	}
	right(t, api.Call{}, false)
}

// P10.1, P10.4, and the example of the chapter.
func TestNumbers(t *testing.T) {
	d := two(t)
	seen(t, d, api.Create, "v", 0)
	made := api.Result{Size: 8, Zone: "a"}
	does(t, d, create("v", 5, 8, "a", ""), made)
	does(t, d, create("v", 5, 8, "a", ""), made)
	volumes(t, d, volume("v", 8, "a", 0))
	rooms(t, d, 12, 5)
	seen(t, d, api.Create, "v", 5)
	for _, c := range []api.Call{create("v", 5, 9, "a", ""), create("v", 5, 8, "b", ""), create("v", 5, 8, "a", "s"), erase("v", 5), publish("v", 5, "n"), expand("v", 5, 8)} {
		fails(t, d, c, api.ErrConflict)
	}
	for _, c := range []api.Call{create("v", 4, 8, "a", ""), erase("v", 4), publish("v", 1, "n"), expand("v", 4, 10), unpublish("v", 3, "n")} {
		fails(t, d, c, api.ErrStale)
	}
	seen(t, d, api.Erase, "v", 5)
	does(t, d, expand("v", 6, 10), api.Result{Size: 10})
	fails(t, d, create("v", 5, 8, "a", ""), api.ErrStale) // what was done once is older now
	fails(t, d, create("v", 6, 8, "a", ""), api.ErrConflict)
	does(t, d, erase("v", math.MaxUint64), api.Result{})
	fails(t, d, create("v", 7, 8, "a", ""), api.ErrStale) // the numbers of one that is gone last
	fails(t, d, create("v", math.MaxUint64, 8, "a", ""), api.ErrConflict)
	does(t, d, erase("v", math.MaxUint64), api.Result{})
	seen(t, d, api.Publish, "v", math.MaxUint64)
	rooms(t, d, 20, 5)
}

// P10.1: what is done again is answered as it was then, be it as it may by now.
func TestAgain(t *testing.T) {
	d := two(t)
	does(t, d, create("v", 1, 8, "a", ""), api.Result{Size: 8, Zone: "a"})
	does(t, d, publish("v", 2, "n"), api.Result{})
	puts(t, d, "v", "n", 7, api.OK)
	does(t, d, create("v", 3, 8, "b", ""), api.Result{Size: 8, Zone: "a", Tag: 7})
	puts(t, d, "v", "n", 9, api.OK)
	does(t, d, create("v", 3, 8, "b", ""), api.Result{Size: 8, Zone: "a", Tag: 7})
	does(t, d, cut("s", 1, "v"), api.Result{Size: 8, Tag: 9})
	puts(t, d, "v", "n", 11, api.OK)
	does(t, d, cut("s", 1, "v"), api.Result{Size: 8, Tag: 9})
	fails(t, d, publish("w", 1, "n"), api.ErrNone)
	seen(t, d, api.Publish, "w", 1) // one that failed was done, too
	fails(t, d, create("w", 1, 1, "a", ""), api.ErrConflict)
	does(t, d, create("w", 2, 1, "a", ""), api.Result{Size: 1, Zone: "a"})
	fails(t, d, publish("w", 1, "n"), api.ErrStale)
	does(t, d, expand("w", 3, 2), api.Result{Size: 2})
	does(t, d, expand("w", 4, 3), api.Result{Size: 3})
	does(t, d, expand("w", 4, 3), api.Result{Size: 3})
	fails(t, d, expand("w", 3, 2), api.ErrStale)
	rooms(t, d, 9, 5)
}

// P10.1: a call that failed and is done again fails again, though it might not by now.
func TestAgainOfWhatFailed(t *testing.T) {
	d := two(t)
	does(t, d, create("v", 1, 20, "a", ""), api.Result{Size: 20, Zone: "a"})
	fails(t, d, create("w", 1, 3, "a", ""), api.ErrSpace)
	does(t, d, erase("v", 2), api.Result{})
	fails(t, d, create("w", 1, 3, "a", ""), api.ErrSpace)
	rooms(t, d, 20, 5)
	does(t, d, create("w", 2, 3, "a", ""), api.Result{Size: 3, Zone: "a"})
}

// P10.1: a snapshot's name and a volume's are two targets.
func TestTargets(t *testing.T) {
	d := two(t)
	does(t, d, create("x", 7, 8, "a", ""), api.Result{Size: 8, Zone: "a"})
	for _, v := range []api.Verb{api.Cut, api.Drop} {
		seen(t, d, v, "x", 0)
	}
	does(t, d, cut("x", 3, "x"), api.Result{Size: 8})
	does(t, d, drop("x", 4), api.Result{})
	fails(t, d, cut("x", 3, "x"), api.ErrStale)
	fails(t, d, cut("x", 4, "x"), api.ErrConflict)
	does(t, d, expand("x", 8, 9), api.Result{Size: 9})
	for _, v := range []api.Verb{api.Create, api.Erase, api.Publish, api.Unpublish, api.Expand} {
		seen(t, d, v, "x", 8)
		seen(t, d, v, "y", 0)
		seen(t, d, v, "", 0)
	}
	for _, v := range []api.Verb{api.Cut, api.Drop} {
		seen(t, d, v, "x", 4)
		seen(t, d, v, "y", 0)
	}
	snaps(t, d)
}

// P10.1: no more targets than may be, of volumes and snapshots together; those that are there go on.
func TestFullOfTargets(t *testing.T) {
	d := two(t)
	for i := range api.MaxCalls {
		if i%2 == 0 {
			does(t, d, erase(strconv.Itoa(i), 1), api.Result{})
		} else {
			does(t, d, drop(strconv.Itoa(i), 1), api.Result{})
		}
	}
	for _, c := range []api.Call{erase("x", 1), drop("x", 9), create("x", 1, 1, "a", ""), drop("0", 1), erase("1", 1), publish("x", 1, "n")} {
		fails(t, d, c, api.ErrFull)
		seen(t, d, c.Verb, c.Target, 0)
	}
	fails(t, d, api.Call{Verb: api.Erase, Target: "x"}, api.ErrForm)
	does(t, d, create("0", 2, 1, "a", ""), api.Result{Size: 1, Zone: "a"})
	does(t, d, create("0", 2, 1, "a", ""), api.Result{Size: 1, Zone: "a"})
	does(t, d, cut("1", 2, "0"), api.Result{Size: 1})
	fails(t, d, erase("0", 1), api.ErrStale)
	fails(t, d, publish("2", 2, "n"), api.ErrNone)
	does(t, d, erase("0", 3), api.Result{}) // a target stays one when it is gone
	fails(t, d, create("x", 1, 1, "a", ""), api.ErrFull)
}

// P10.2
func TestCreate(t *testing.T) {
	d := two(t)
	does(t, d, create("v", 1, 8, "a", ""), api.Result{Size: 8, Zone: "a"})
	does(t, d, create("w", 1, 12, "a", ""), api.Result{Size: 12, Zone: "a"})
	fails(t, d, create("x", 1, 1, "a", ""), api.ErrSpace)
	fails(t, d, create("x", 2, 6, "b", ""), api.ErrSpace)
	does(t, d, create("x", 3, 5, "b", ""), api.Result{Size: 5, Zone: "b"})
	rooms(t, d, 0, 0)
	fails(t, d, create("y", 1, 1, "c", ""), api.ErrNone)
	fails(t, d, create("y", 2, 100, "c", "none"), api.ErrNone)
	volumes(t, d, volume("v", 8, "a", 0), volume("w", 12, "a", 0), volume("x", 5, "b", 0))
}

// P10.2: of one that is there only the size is asked.
func TestCreateOfWhatIsThere(t *testing.T) {
	d := two(t)
	does(t, d, create("v", 1, 8, "a", ""), api.Result{Size: 8, Zone: "a"})
	does(t, d, publish("v", 2, "n"), api.Result{})
	puts(t, d, "v", "n", 6, api.OK)
	there := api.Result{Size: 8, Zone: "a", Tag: 6}
	does(t, d, create("v", 3, 8, "a", ""), there)
	does(t, d, create("v", 4, 1, "a", ""), there)
	does(t, d, create("v", 5, 7, "b", ""), there)
	does(t, d, create("v", 6, 7, "nowhere", "nothing"), there)
	fails(t, d, create("v", 7, 9, "a", ""), api.ErrSmall)
	fails(t, d, create("v", 8, api.MaxSize, "nowhere", "nothing"), api.ErrSmall)
	volumes(t, d, volume("v", 8, "a", 6, "n"))
	rooms(t, d, 12, 5)
}

// withSources is a driver with a volume v (size 4, tag 50), one of the name s (2, 40), and a snapshot s of v (4, 30).
func withSources(t *testing.T) *driver.Driver {
	t.Helper()
	d := two(t)
	does(t, d, create("v", 1, 4, "a", ""), api.Result{Size: 4, Zone: "a"})
	does(t, d, create("s", 1, 2, "a", ""), api.Result{Size: 2, Zone: "a"})
	does(t, d, publish("v", 2, "n"), api.Result{})
	does(t, d, publish("s", 2, "n"), api.Result{})
	puts(t, d, "v", "n", 30, api.OK)
	does(t, d, cut("s", 1, "v"), api.Result{Size: 4, Tag: 30})
	puts(t, d, "v", "n", 50, api.OK)
	puts(t, d, "s", "n", 40, api.OK)
	return d
}

// P10.2: with a source: a snapshot goes ahead of a volume of its name.
func TestCreateWithSource(t *testing.T) {
	d := withSources(t)
	does(t, d, create("w", 1, 4, "b", "s"), api.Result{Size: 4, Zone: "b", Tag: 30})
	does(t, d, create("x", 1, 6, "a", "v"), api.Result{Size: 6, Zone: "a", Tag: 50})
	fails(t, d, create("y", 1, 3, "a", "s"), api.ErrSmall)
	fails(t, d, create("y", 2, 3, "a", "v"), api.ErrSmall)
	fails(t, d, create("y", 3, 9, "a", "y"), api.ErrNone)
	fails(t, d, create("y", 4, 9, "a", "n"), api.ErrNone)
	does(t, d, drop("s", 2), api.Result{})
	does(t, d, create("y", 5, 2, "a", "s"), api.Result{Size: 2, Zone: "a", Tag: 40})
	rooms(t, d, 6, 1)
	volumes(t, d, volume("s", 2, "a", 40, "n"), volume("v", 4, "a", 50, "n"), volume("w", 4, "b", 30), volume("x", 6, "a", 50), volume("y", 2, "a", 40))
}

// P10.2, P2: the error that is named first.
func TestCreateErrors(t *testing.T) {
	d := withSources(t)
	fails(t, d, create("y", 1, 3, "c", "s"), api.ErrNone)  // and too small
	fails(t, d, create("y", 2, 99, "a", "c"), api.ErrNone) // and no space
	does(t, d, create("big", 1, 14, "a", ""), api.Result{Size: 14, Zone: "a"})
	fails(t, d, create("y", 3, 3, "a", "s"), api.ErrSmall) // and no space
	fails(t, d, create("y", 4, 4, "a", "s"), api.ErrSpace)
	fails(t, d, create("y", 5, 6, "b", "v"), api.ErrSpace)
	does(t, d, create("y", 6, 5, "b", "v"), api.Result{Size: 5, Zone: "b", Tag: 50})
}

// P10.2: no more volumes than may be.
func TestFullOfVolumes(t *testing.T) {
	d := driver.New(api.Zone{Name: "a", Room: 100}, api.Zone{Name: "b", Room: 0})
	for i := range api.MaxVolumes {
		does(t, d, create("v"+strconv.Itoa(i), 1, 1, "a", ""), api.Result{Size: 1, Zone: "a"})
	}
	does(t, d, expand("v1", 2, 2), api.Result{Size: 2})
	fails(t, d, create("x", 1, 1, "a", ""), api.ErrFull)
	fails(t, d, create("x", 2, 1, "b", ""), api.ErrFull) // and no space
	fails(t, d, create("x", 3, 1, "c", ""), api.ErrNone)
	fails(t, d, create("x", 4, 1, "a", "y"), api.ErrNone)
	fails(t, d, create("x", 5, 1, "a", "v1"), api.ErrSmall)
	fails(t, d, create("x", 6, 1, "a", "v2"), api.ErrFull)
	does(t, d, create("v2", 2, 1, "a", ""), api.Result{Size: 1, Zone: "a"})
	does(t, d, erase("v2", 3), api.Result{})
	fails(t, d, create("x", 6, 1, "a", "v2"), api.ErrFull)
	does(t, d, create("x", 7, 1, "a", ""), api.Result{Size: 1, Zone: "a"})
	fails(t, d, create("v2", 4, 1, "a", ""), api.ErrFull)
	if len(d.Volumes()) != 64 {
		t.Errorf("%d volumes", len(d.Volumes()))
	}
}

// P10.2
func TestErase(t *testing.T) {
	d := two(t)
	does(t, d, erase("v", 1), api.Result{}) // none was there
	rooms(t, d, 20, 5)
	does(t, d, create("v", 2, 8, "a", ""), api.Result{Size: 8, Zone: "a"})
	does(t, d, create("w", 2, 5, "b", ""), api.Result{Size: 5, Zone: "b"})
	does(t, d, publish("v", 3, "n"), api.Result{})
	does(t, d, publish("v", 4, "m"), api.Result{})
	fails(t, d, erase("v", 5), api.ErrBusy)
	does(t, d, unpublish("v", 6, "n"), api.Result{})
	fails(t, d, erase("v", 7), api.ErrBusy)
	does(t, d, unpublish("v", 8, "m"), api.Result{})
	does(t, d, expand("v", 9, 11), api.Result{Size: 11})
	rooms(t, d, 9, 0)
	does(t, d, erase("v", 10), api.Result{})
	rooms(t, d, 20, 0)
	volumes(t, d, volume("w", 5, "b", 0))
	does(t, d, erase("v", 11), api.Result{})
	rooms(t, d, 20, 0)
	does(t, d, create("v", 12, 3, "a", ""), api.Result{Size: 3, Zone: "a"}) // of nothing that was
	volumes(t, d, volume("v", 3, "a", 0), volume("w", 5, "b", 0))
}

// P10.2
func TestPublish(t *testing.T) {
	d := two(t)
	fails(t, d, publish("v", 1, "n"), api.ErrNone)
	does(t, d, unpublish("v", 2, "n"), api.Result{}) // it is not published there
	does(t, d, create("v", 3, 8, "a", ""), api.Result{Size: 8, Zone: "a"})
	does(t, d, unpublish("v", 4, "n"), api.Result{})
	for i, node := range []string{"n", "o", "m", "n", "n/1"} {
		does(t, d, publish("v", uint64(5+i), node), api.Result{})
	}
	volumes(t, d, volume("v", 8, "a", 0, "m", "n", "n/1", "o"))
	does(t, d, unpublish("v", 20, "n"), api.Result{})
	does(t, d, unpublish("v", 21, "x"), api.Result{})
	volumes(t, d, volume("v", 8, "a", 0, "m", "n/1", "o"))
	does(t, d, create("w", 1, 1, "a", ""), api.Result{Size: 1, Zone: "a"})
	does(t, d, publish("w", 2, "m"), api.Result{})
	does(t, d, unpublish("v", 22, "m"), api.Result{})
	volumes(t, d, volume("v", 8, "a", 0, "n/1", "o"), volume("w", 1, "a", 0, "m"))
	rooms(t, d, 11, 5)
}

// P10.2, P10.6
func TestExpand(t *testing.T) {
	d := two(t)
	fails(t, d, expand("v", 1, 8), api.ErrNone)
	does(t, d, create("v", 2, 8, "a", ""), api.Result{Size: 8, Zone: "a"})
	does(t, d, create("w", 1, 4, "a", ""), api.Result{Size: 4, Zone: "a"})
	for i, size := range []int64{1, 7, 8} {
		does(t, d, expand("v", uint64(3+i), size), api.Result{Size: 8})
	}
	rooms(t, d, 8, 5)
	fails(t, d, expand("v", 6, 17), api.ErrSpace)
	fails(t, d, expand("v", 7, api.MaxSize), api.ErrSpace)
	does(t, d, publish("v", 8, "n"), api.Result{})
	puts(t, d, "v", "n", 3, api.OK)
	does(t, d, expand("v", 9, 9), api.Result{Size: 9})
	does(t, d, expand("v", 10, 16), api.Result{Size: 16})
	rooms(t, d, 0, 5)
	volumes(t, d, volume("v", 16, "a", 3, "n"), volume("w", 4, "a", 0))
	does(t, d, expand("v", 11, 16), api.Result{Size: 16})
	fails(t, d, expand("v", 12, 17), api.ErrSpace)
	fails(t, d, expand("w", 2, 5), api.ErrSpace)
}

// P10.2
func TestCutAndDrop(t *testing.T) {
	d := two(t)
	does(t, d, drop("s", 1), api.Result{}) // none was there
	fails(t, d, cut("s", 2, "v"), api.ErrNone)
	does(t, d, create("v", 1, 8, "a", ""), api.Result{Size: 8, Zone: "a"})
	does(t, d, create("w", 1, 1, "a", ""), api.Result{Size: 1, Zone: "a"})
	does(t, d, publish("v", 2, "n"), api.Result{})
	puts(t, d, "v", "n", 5, api.OK)
	does(t, d, cut("s", 3, "v"), api.Result{Size: 8, Tag: 5})
	puts(t, d, "v", "n", 6, api.OK)
	does(t, d, expand("v", 3, 10), api.Result{Size: 10})
	does(t, d, cut("s", 4, "v"), api.Result{Size: 8, Tag: 5}) // as it was
	does(t, d, cut("s", 5, "w"), api.Result{Size: 8, Tag: 5})
	does(t, d, cut("s", 6, "none"), api.Result{Size: 8, Tag: 5})
	does(t, d, cut("r", 1, "v"), api.Result{Size: 10, Tag: 6})
	fails(t, d, cut("q", 1, "s"), api.ErrNone) // a snapshot is no volume
	snaps(t, d, api.DriverSnap{Name: "r", Size: 10, Tag: 6}, api.DriverSnap{Name: "s", Size: 8, Tag: 5})
	rooms(t, d, 9, 5) // they take no room
	does(t, d, drop("s", 7), api.Result{})
	does(t, d, drop("s", 8), api.Result{})
	snaps(t, d, api.DriverSnap{Name: "r", Size: 10, Tag: 6})
	does(t, d, cut("s", 9, "v"), api.Result{Size: 10, Tag: 6})
}

// E5: a snapshot is what its volume was, though that is gone, and what is made of it begins so.
func TestSnapOfWhatIsGone(t *testing.T) {
	d := two(t)
	does(t, d, create("v", 1, 8, "a", ""), api.Result{Size: 8, Zone: "a"})
	does(t, d, publish("v", 2, "n"), api.Result{})
	puts(t, d, "v", "n", math.MaxUint64, api.OK)
	does(t, d, cut("s", 1, "v"), api.Result{Size: 8, Tag: math.MaxUint64})
	does(t, d, unpublish("v", 3, "n"), api.Result{})
	does(t, d, erase("v", 4), api.Result{})
	does(t, d, create("v", 5, 9, "a", "s"), api.Result{Size: 9, Zone: "a", Tag: math.MaxUint64})
	does(t, d, publish("v", 6, "n"), api.Result{})
	puts(t, d, "v", "n", 1, api.OK)
	snaps(t, d, api.DriverSnap{Name: "s", Size: 8, Tag: math.MaxUint64})
}

// P10.2: no more snapshots than may be.
func TestFullOfSnaps(t *testing.T) {
	d := two(t)
	does(t, d, create("v", 1, 8, "a", ""), api.Result{Size: 8, Zone: "a"})
	for i := range api.MaxSnaps {
		does(t, d, cut("s"+strconv.Itoa(i), 1, "v"), api.Result{Size: 8})
	}
	fails(t, d, cut("x", 1, "none"), api.ErrNone)
	fails(t, d, cut("x", 2, "v"), api.ErrFull)
	does(t, d, cut("s3", 2, "v"), api.Result{Size: 8})
	does(t, d, drop("s3", 3), api.Result{})
	fails(t, d, cut("x", 2, "v"), api.ErrFull)
	does(t, d, cut("x", 3, "v"), api.Result{Size: 8})
	fails(t, d, cut("s3", 4, "v"), api.ErrFull)
	if len(d.Snaps()) != 64 {
		t.Errorf("%d snapshots", len(d.Snaps()))
	}
}

// P10.3
func TestPut(t *testing.T) {
	d := two(t)
	puts(t, d, "v", "n", 1, api.ErrNone)
	does(t, d, create("v", 1, 8, "a", ""), api.Result{Size: 8, Zone: "a"})
	puts(t, d, "v", "n", 1, api.ErrBusy)
	puts(t, d, "v", "", 1, api.ErrBusy)
	puts(t, d, "", "", 1, api.ErrNone)
	puts(t, d, "\xff", "n", 1, api.ErrNone)
	does(t, d, publish("v", 2, "n"), api.Result{})
	does(t, d, publish("v", 3, "m"), api.Result{})
	puts(t, d, "v", "n", 1, api.OK)
	volumes(t, d, volume("v", 8, "a", 1, "m", "n"))
	puts(t, d, "v", "m", math.MaxUint64, api.OK)
	volumes(t, d, volume("v", 8, "a", math.MaxUint64, "m", "n"))
	puts(t, d, "v", "o", 2, api.ErrBusy)
	puts(t, d, "w", "n", 2, api.ErrNone)
	puts(t, d, "v", "n", 0, api.OK)
	volumes(t, d, volume("v", 8, "a", 0, "m", "n"))
	does(t, d, unpublish("v", 4, "n"), api.Result{})
	puts(t, d, "v", "n", 3, api.ErrBusy)
	seen(t, d, api.Publish, "v", 4) // Put is no call
}

// P10.3: by their names, whatever the order in which they came.
func TestOrder(t *testing.T) {
	d := two(t)
	for i, name := range []string{"b", "a/2", "z", "a#1", "a", "a10", "a9"} {
		does(t, d, create(name, 1, 1, "a", ""), api.Result{Size: 1, Zone: "a"})
		does(t, d, cut(name, uint64(i+1), "b"), api.Result{Size: 1})
		does(t, d, publish("b", uint64(i+2), name), api.Result{})
	}
	rising := []string{"a", "a#1", "a/2", "a10", "a9", "b", "z"}
	for i, v := range d.Volumes() {
		if v.Name != rising[i] || v.Name == "b" && !slices.Equal(v.Nodes, rising) {
			t.Errorf("volume %d: %+v", i, v)
		}
	}
	for i, s := range d.Snaps() {
		if s.Name != rising[i] {
			t.Errorf("snapshot %d: %+v", i, s)
		}
	}
	if len(d.Volumes()) != 7 || len(d.Snaps()) != 7 {
		t.Errorf("%+v", stateOf(d))
	}
}

// P10.3
func TestRoom(t *testing.T) {
	d := two(t)
	rooms(t, d, 20, 5)
	for _, zone := range []string{"", "c", "A", "\xff"} {
		if n, ok := d.Room(zone); n != 0 || ok {
			t.Errorf("Room(%q) = %d, %v", zone, n, ok)
		}
	}
	big := driver.New(api.Zone{Name: "a", Room: api.MaxSize})
	does(t, big, create("v", 1, api.MaxSize, "a", ""), api.Result{Size: api.MaxSize, Zone: "a"})
	does(t, big, erase("v", 2), api.Result{})
	if n, ok := big.Room("a"); n != api.MaxSize || !ok {
		t.Errorf("Room = %d, %v", n, ok)
	}
}

// P10.3, P4
func TestFork(t *testing.T) {
	d := withSources(t)
	before := stateOf(d)
	f := d.Fork()
	same(t, f, before)
	seen(t, f, api.Create, "v", 2)
	seen(t, f, api.Cut, "s", 1)
	does(t, d, publish("v", 3, "o"), api.Result{})
	does(t, d, unpublish("s", 3, "n"), api.Result{})
	does(t, d, expand("v", 4, 7), api.Result{Size: 7})
	does(t, d, create("w", 1, 5, "b", ""), api.Result{Size: 5, Zone: "b"})
	does(t, d, drop("s", 9), api.Result{})
	puts(t, d, "v", "n", 99, api.OK)
	same(t, f, before)
	seen(t, f, api.Create, "v", 2)
	seen(t, f, api.Create, "w", 0)
	seen(t, f, api.Cut, "s", 1)
	after := stateOf(d)
	does(t, f, publish("v", 3, "m"), api.Result{}) // its numbers are its own, too
	does(t, f, unpublish("v", 4, "n"), api.Result{})
	does(t, f, create("w", 1, 1, "a", ""), api.Result{Size: 1, Zone: "a"})
	does(t, f, cut("r", 1, "v"), api.Result{Size: 4, Tag: 50})
	puts(t, f, "s", "n", 98, api.OK)
	same(t, d, after)
	volumes(t, f, volume("s", 2, "a", 98, "n"), volume("v", 4, "a", 50, "m"), volume("w", 1, "a", 0))
}

// P3: what is answered is no part of the driver, and what is handed in stays as it is.
func TestMemory(t *testing.T) {
	room := append(make([]api.Zone, 0, 4), api.Zone{Name: "b", Room: 5}, api.Zone{Name: "a", Room: 20})
	was := slices.Clone(room[:4])
	d := driver.New(room...)
	if !slices.Equal(room[:4], was) {
		t.Errorf("zones %v", room[:4])
	}
	clear(room)
	rooms(t, d, 20, 5)
	does(t, d, create("v", 1, 8, "a", ""), api.Result{Size: 8, Zone: "a"})
	does(t, d, publish("v", 2, "n"), api.Result{})
	does(t, d, publish("v", 3, "m"), api.Result{})
	does(t, d, cut("s", 1, "v"), api.Result{Size: 8})
	before, l, s := stateOf(d), d.Volumes(), d.Snaps()
	l[0].Nodes[0], l[0].Name, s[0].Name = "x", "x", "x"
	_ = append(l[0].Nodes[:1], "y", "z")
	same(t, d, before)
	l = d.Volumes()
	does(t, d, unpublish("v", 4, "m"), api.Result{})
	does(t, d, publish("v", 5, "a"), api.Result{})
	if !slices.Equal(l[0].Nodes, []string{"m", "n"}) {
		t.Errorf("what was answered is another one: %v", l)
	}
}

// P1
func TestNil(t *testing.T) {
	var d *driver.Driver
	for _, c := range append(rightCalls(), api.Call{}) {
		if r := d.Do(c); r != failed(api.ErrNil) {
			t.Errorf("Do(%+v) = %+v", c, r)
		}
	}
	if e := d.Put("v", "n", 1); e != api.ErrNil {
		t.Errorf("Put: %d", e)
	}
	if room, ok := d.Room("a"); room != 0 || ok {
		t.Errorf("Room = %d, %v", room, ok)
	}
	if d.Volumes() != nil || d.Snaps() != nil || d.Seen(api.Create, "v") != 0 || d.Fork() != nil {
		t.Error("a nil driver has something")
	}
}
