package plane_test

import (
	"math"
	"testing"

	"wharfinger/api"
	"wharfinger/object"
	"wharfinger/plane"
)

// P1, P15.1 to P15.4: no plane.
func TestNil(t *testing.T) {
	var p *plane.Plane
	a, e := p.Step(plane.Part(-1), 7, 9)
	for i, e := range []api.Errno{
		p.Create(api.Object{}), p.Create(class), p.Delete(api.Key{}), p.Delete(api.Key{Kind: api.Attach}), p.Grow("", 0), p.Place("", ""), p.Put("", "", 0),
		p.Elect(plane.Binder, 0), p.Elect(9, 9), e, p.Again(0), p.Again(-1), p.Resync(plane.Keeper, 1), p.Resync(-1, -1),
		p.Tick(1), p.Tick(0), p.Crash(plane.Attacher, 0), p.Crash(3, 2), p.Power(node, 0, 0), p.Power(api.Object{}, -1, -1),
	} {
		if e != api.ErrNil {
			t.Errorf("%d: error %d", i, e)
		}
	}
	if a != (api.Act{}) || len(p.Objects())+len(p.Volumes())+len(p.Snaps())+len(p.Sent()) != 0 || p.Now() != 0 || p.Fork() != nil {
		t.Error("a nil plane has something")
	}
}

// notReplicas are controllers and replicas of which there are none.
func notReplicas() map[plane.Part]int {
	return map[plane.Part]int{plane.Binder: 2, plane.Attacher: -1, plane.Keeper: math.MaxInt, plane.Keeper + 1: 0, -1: 1, math.MaxInt: 0, math.MinInt: 0}
}

// P15.2, P15.3: of what is no controller, no replica, no outcome, nothing changes.
func TestRange(t *testing.T) {
	p := elected(t, class, claim)
	for c, replica := range notReplicas() {
		refuses(t, p, "Elect", api.ErrRange, func() api.Errno { return p.Elect(c, replica) })
		refuses(t, p, "Resync", api.ErrRange, func() api.Errno { return p.Resync(c, replica) })
		refuses(t, p, "Crash", api.ErrRange, func() api.Errno { return p.Crash(c, replica) })
		refuses(t, p, "Step", api.ErrRange, func() api.Errno { return stepped(t, p, c, replica, api.Done) })
	}
	for _, o := range []api.Outcome{api.LateLost + 1, 255} {
		refuses(t, p, "Step to no outcome", api.ErrRange, func() api.Errno { return stepped(t, p, plane.Binder, 0, o) })
		refuses(t, p, "Step to no outcome, of another one's lease", api.ErrRange, func() api.Errno { return stepped(t, p, plane.Binder, 1, o) })
	}
}

// stepped is the error of a step, with which there is no act.
func stepped(t *testing.T, p *plane.Plane, c plane.Part, replica int, o api.Outcome) api.Errno {
	t.Helper()
	a, e := p.Step(c, replica, o)
	if e != api.OK && a != (api.Act{}) {
		t.Errorf("%+v with error %d", a, e)
	}
	return e
}

// P15.2: a lease is of one replica, for 10 ticks, and each controller has its own.
func TestElect(t *testing.T) {
	p := newPlane(t)
	try := func(c plane.Part, replica int, elect, step api.Errno) {
		t.Helper()
		is(t, p.Elect(c, replica), elect)
		is(t, stepped(t, p, c, replica, api.Done), step)
	}
	is(t, stepped(t, p, plane.Binder, 0, api.Done), api.ErrHeld)
	try(plane.Binder, 0, api.OK, api.OK)
	try(plane.Binder, 1, api.ErrHeld, api.ErrHeld)
	try(plane.Attacher, 1, api.OK, api.OK)
	p.Tick(9)
	try(plane.Binder, 1, api.ErrHeld, api.ErrHeld)
	is(t, stepped(t, p, plane.Binder, 0, api.Done), api.OK)
	try(plane.Attacher, 1, api.OK, api.OK) // from now on for 10 more
	p.Tick(1)
	is(t, stepped(t, p, plane.Binder, 0, api.Done), api.ErrHeld) // it is over
	try(plane.Attacher, 0, api.ErrHeld, api.ErrHeld)
	try(plane.Binder, 1, api.OK, api.OK)
	try(plane.Binder, 0, api.ErrHeld, api.ErrHeld)
	p.Tick(8)
	try(plane.Attacher, 0, api.ErrHeld, api.ErrHeld)
	p.Tick(1)
	try(plane.Attacher, 0, api.OK, api.OK)
	try(plane.Keeper, 0, api.OK, api.OK)
}

// P15.2: a lease is over without anybody else who asks, and asked for again; a refused one leaves it.
func TestElectAgain(t *testing.T) {
	p := newPlane(t)
	is(t, p.Elect(plane.Keeper, 1), api.OK)
	refuses(t, p, "Elect", api.ErrHeld, func() api.Errno { return p.Elect(plane.Keeper, 0) })
	p.Tick(10)
	refuses(t, p, "Step", api.ErrHeld, func() api.Errno { return stepped(t, p, plane.Keeper, 1, api.Done) })
	is(t, p.Elect(plane.Keeper, 1), api.OK)
	is(t, stepped(t, p, plane.Keeper, 1, api.Done), api.OK)
}

// P15.3, P5: time goes on, and not beyond its end.
func TestTick(t *testing.T) {
	p := newPlane(t)
	for _, n := range []int{0, -1, math.MinInt, 1<<20 + 1, math.MaxInt} {
		refuses(t, p, "Tick", api.ErrRange, func() api.Errno { return p.Tick(n) })
	}
	now := uint64(0)
	for _, n := range []int{1, 5, 1 << 20} {
		is(t, p.Tick(n), api.OK)
		now += uint64(n)
		if p.Now() != now {
			t.Errorf("now %d; want %d", p.Now(), now)
		}
	}
}

// P15.3: a call comes once more, and does what it does at the driver alone.
func TestAgain(t *testing.T) {
	p := elected(t, class, claim)
	for _, i := range []int{-1, 0, 1, math.MaxInt, math.MinInt} {
		refuses(t, p, "of none", api.ErrRange, func() api.Errno { return p.Again(i) })
	}
	for range 2 {
		step(t, p, plane.Binder, api.LateLost) // to be made; asked, and lost
	}
	if len(p.Sent()) != 1 || len(p.Volumes()) != 0 {
		t.Fatal(told(p))
	}
	objects := p.Objects()
	is(t, p.Again(0), api.OK)
	if l := p.Volumes(); len(l) != 1 || l[0].Name != "pvc/c#2" || l[0].Size != 5 || len(p.Sent()) != 1 {
		t.Fatal(told(p))
	}
	if l := p.Objects(); len(l) != len(objects) || l[0] != objects[0] || l[1] != objects[1] {
		t.Errorf("%+v; want %+v", l, objects)
	}
	refuses(t, p, "of one there is not", api.ErrRange, func() api.Errno { return p.Again(1) })
}

// P15.3: the power goes in the midst of the making of an object: it is there, or nothing of it.
func TestPower(t *testing.T) {
	for keep := range 3 {
		for torn := range api.BlockSize + 1 {
			p := newPlane(t, class, claim)
			objects := len(p.Objects())
			is(t, p.Power(node, keep, torn), api.OK)
			made := get(p, api.Node, "n")
			if made != (api.Object{}) && (made.Version != 3 || made.Born != 3 || made.Zone != "a") || made == (api.Object{}) && len(p.Objects()) != objects {
				t.Fatalf("%d, %d: %+v", keep, torn, p.Objects())
			}
			if whole := keep > 0 || torn >= 22; (made.Name == "n") != whole { // what is behind 22 bytes of it is 0
				t.Fatalf("%d, %d: %+v", keep, torn, made)
			}
		}
	}
}

// P15.3: the power goes in the midst of what no user makes, of a volume, and by so many blocks as may not be: not at all.
func TestPowerRefused(t *testing.T) {
	p := elected(t, class, claim, node)
	step(t, p, plane.Binder, api.Done)
	refuses(t, p, "of a volume", api.ErrForm, func() api.Errno { return p.Power(volume, 0, 0) })
	refuses(t, p, "of a volume that may not be", api.ErrForm, func() api.Errno { return p.Power(api.Object{Kind: api.Volume}, -1, 0) })
	for _, o := range notUsers() {
		if e := p.Power(o, 0, 0); e != api.ErrForm {
			t.Errorf("Power(%+v): error %d", o, e)
		}
	}
	for _, x := range [][2]int{{-1, 0}, {0, -1}, {0, api.BlockSize + 1}, {math.MinInt, math.MaxInt}} {
		refuses(t, p, "Power", api.ErrRange, func() api.Errno { return p.Power(pod, x[0], x[1]) })
	}
}

// P15.3: of an object that could not be made nothing is there behind the loss; what is left out of it is as ever.
func TestPowerOfWhatIsThere(t *testing.T) {
	p := newPlane(t, class)
	is(t, p.Power(api.Object{Kind: api.Class, Name: "f", Zone: "b"}, 9, 0), api.OK)
	objectIs(t, p, api.Object{Kind: api.Class, Name: "f", Zone: "a", Version: 1, Born: 1})
	is(t, p.Power(claim, 9, 0), api.OK)
	want := object.Default(claim)
	want.Version, want.Born = 2, 2
	objectIs(t, p, want)
	create(t, p, node)
	if o := get(p, api.Node, "n"); o.Version != 3 {
		t.Errorf("%+v", o)
	}
}

// P15.4, P3: what is answered is the caller's.
func TestAnswers(t *testing.T) {
	p := newPlane(t, class, node, claim, pod, volume)
	is(t, p.Place("p", "n"), api.OK)
	create(t, p, snap)
	round(t, p, 20)
	was := future(p)
	objects, volumes, snaps, sent := p.Objects(), p.Volumes(), p.Snaps(), p.Sent()
	if len(objects) != 8 || len(volumes) != 2 || len(snaps) != 1 || len(sent) != 4 || p.Now() != 20 {
		t.Fatal(told(p))
	}
	for i := 1; i < len(objects); i++ {
		if !object.Less(object.Key(objects[i-1]), object.Key(objects[i])) {
			t.Errorf("%+v ahead of %+v", objects[i-1], objects[i])
		}
	}
	objects[0], volumes[1], snaps[0], sent[0] = api.Object{}, api.DriverVolume{}, api.DriverSnap{}, api.Call{}
	volumes[0].Nodes[0] = "x"
	if future(p) != was {
		t.Error("an answer is a plane's own")
	}
}

// P15.4, P4: what becomes of a plane changes nothing of its Fork, nor the other way round.
func TestFork(t *testing.T) {
	p := newPlane(t, class, node, claim, pod, volume, snap)
	is(t, p.Place("p", "n"), api.OK)
	for range 25 {
		was := future(p)
		f := p.Fork()
		if future(f) != was {
			t.Fatal("a Fork is not the same")
		}
		spoil(f)
		if future(p) != was {
			t.Fatal("a Fork changes the plane")
		}
		f = p.Fork()
		spoil(p)
		if future(f) != was {
			t.Fatal("a plane changes its Fork")
		}
		p = f
		round(t, p, 1)
	}
}

// spoil does all that can be done to a plane.
func spoil(p *plane.Plane) {
	p.Create(api.Object{Kind: api.Volume, Name: "w", Class: "g", Size: 3, Zone: "a"})
	p.Delete(object.Key(snap))
	p.Grow("c", 9)
	p.Put("pvc/c#3", "n", 7)
	p.Tick(3)
	for c := plane.Binder; c <= plane.Keeper; c++ {
		p.Resync(c, 1)
		for i := range 8 {
			p.Elect(c, i%2)
			p.Step(c, i%2, api.Outcome(i%4))
			p.Tick(5)
		}
	}
	p.Again(0)
	p.Crash(plane.Binder, 0)
	p.Power(api.Object{Kind: api.Node, Name: "m", Zone: "a"}, 5, 0)
}
