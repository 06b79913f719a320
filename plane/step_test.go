package plane_test

import (
	"testing"

	"wharfinger/api"
	"wharfinger/object"
	"wharfinger/plane"
)

// does lets a replica act, and holds it to what it does and to which object that is of.
func does(t *testing.T, p *plane.Plane, c plane.Part, o api.Outcome, do api.Do, of string) api.Act {
	t.Helper()
	a := step(t, p, c, o)
	if a.Do != do || a.Object.Name+a.Call.Target != of {
		t.Fatalf("%+v; want %d of %q", a, do, of)
	}
	return a
}

// P15.2: the first act is answered, and what is behind a call is done, too.
func TestStep(t *testing.T) {
	p := elected(t, class, claim)
	does(t, p, plane.Binder, api.Done, api.Write, "c")
	want := object.Default(claim)
	want.Version, want.Born, want.Phase, want.Zone, want.Num = 3, 2, api.Creating, "a", 3
	objectIs(t, p, want)
	a := does(t, p, plane.Binder, api.Done, api.Ask, "pvc/c#2")
	if a != (api.Act{Do: api.Ask, Call: api.Call{Verb: api.Create, Target: "pvc/c#2", Num: 3, Size: 5, Zone: "a"}}) || len(p.Sent()) != 1 || p.Sent()[0] != a.Call {
		t.Errorf("%+v; sent %+v", a, p.Sent())
	}
	if v := get(p, api.Volume, "pvc/c#2"); v.Phase != api.Bound || v.Got != 5 || v.Claim != "c#2" {
		t.Errorf("%+v", v)
	}
	does(t, p, plane.Binder, api.Done, api.Write, "c")
	if c := get(p, api.Claim, "c"); c.Phase != api.Bound || c.Volume != "pvc/c#2" || c.Got != 5 {
		t.Errorf("%+v", c)
	}
	does(t, p, plane.Attacher, api.Done, api.Nothing, "")
	does(t, p, plane.Keeper, api.Done, api.Nothing, "")
	for range 5 {
		does(t, p, plane.Binder, api.Done, api.Nothing, "")
	}
	is(t, p.Delete(object.Key(claim)), api.OK)
	gone := get(p, api.Claim, "c")
	if a := does(t, p, plane.Binder, api.Done, api.Remove, "c"); a.Object != gone || get(p, api.Claim, "c") != (api.Object{}) {
		t.Errorf("%+v; want %+v", a, gone)
	}
}

// P15.2: the key of a call that came to nothing waits longer and longer, and from the beginning, when something came of it.
func TestStepFails(t *testing.T) {
	p := elected(t, class, claim)
	does(t, p, plane.Binder, api.Done, api.Write, "c")
	for _, delay := range []int{1, 2, 4, 8, 16, 32, 64, 64} {
		is(t, p.Elect(plane.Binder, 0), api.OK)
		does(t, p, plane.Binder, api.LateDone, api.Ask, "pvc/c#2")
		for range delay {
			is(t, p.Elect(plane.Binder, 0), api.OK)
			does(t, p, plane.Binder, api.Done, api.Nothing, "")
			p.Tick(1)
		}
	}
	is(t, p.Elect(plane.Binder, 0), api.OK)
	does(t, p, plane.Binder, api.Refused, api.Ask, "pvc/c#2") // it waits anew, which is written
	does(t, p, plane.Binder, api.Refused, api.Write, "c")
	does(t, p, plane.Binder, api.LateLost, api.Ask, "pvc/c#2")
	does(t, p, plane.Binder, api.Done, api.Nothing, "")
	p.Tick(1)
	does(t, p, plane.Binder, api.Done, api.Ask, "pvc/c#2")
	if len(p.Volumes()) != 1 || len(p.Sent()) != 11 {
		t.Error(told(p))
	}
}

// P15.2: a change lets all keys be due at once, be it of whatever; without one they wait.
func TestStepSees(t *testing.T) {
	p := elected(t, class, claim)
	does(t, p, plane.Binder, api.Done, api.Write, "c")
	for range 4 {
		does(t, p, plane.Binder, api.LateLost, api.Ask, "pvc/c#2")
		does(t, p, plane.Binder, api.LateLost, api.Nothing, "")
		is(t, p.Delete(object.Key(class)), api.OK)
		create(t, p, class)
	}
	does(t, p, plane.Binder, api.LateLost, api.Ask, "pvc/c#2")
	for range 5 { // its failures are not forgotten by that: it is due in 16
		p.Tick(3)
		is(t, p.Elect(plane.Binder, 0), api.OK)
		does(t, p, plane.Binder, api.Done, api.Nothing, "")
	}
	p.Tick(1)
	does(t, p, plane.Binder, api.LateLost, api.Ask, "pvc/c#2")
}

// P15.2: keys are taken as they wait: claims ahead of volumes, each by its name, of the next change behind those that wait already.
func TestStepOrder(t *testing.T) {
	p := elected(t)
	for _, o := range []api.Object{
		{Kind: api.Volume, Name: "a", Class: "g", Size: 1, Zone: "a"},
		{Kind: api.Claim, Name: "z", Class: "f", Size: 1},
		{Kind: api.Claim, Name: "y", Class: "f", Size: 1},
		{Kind: api.Class, Name: "f", Zone: "a"},
	} {
		create(t, p, o)
	}
	is(t, p.Delete(api.Key{Kind: api.Volume, Name: "a"}), api.OK)
	does(t, p, plane.Binder, api.Done, api.Write, "y")
	does(t, p, plane.Binder, api.Done, api.Write, "z")
	does(t, p, plane.Binder, api.Done, api.Write, "a")
	create(t, p, api.Object{Kind: api.Claim, Name: "b", Class: "f", Size: 1})
	for _, name := range []string{"pvc/y#3", "pvc/z#2", "a"} {
		does(t, p, plane.Binder, api.Done, api.Ask, name)
	}
	does(t, p, plane.Binder, api.Done, api.Write, "b")
	does(t, p, plane.Binder, api.Done, api.Write, "y")
	does(t, p, plane.Binder, api.Done, api.Nothing, "") // of the volume that was made for y: it waits since then
	does(t, p, plane.Binder, api.Done, api.Write, "z")
}

// P15.2: each controller looks after the kinds that are its own, and keeps a queue of its own.
func TestStepParts(t *testing.T) {
	p := elected(t, class, node, claim, pod, snap)
	is(t, p.Place("p", "n"), api.OK)
	does(t, p, plane.Attacher, api.Done, api.Nothing, "")
	does(t, p, plane.Keeper, api.Done, api.Nothing, "")
	for range 3 {
		step(t, p, plane.Binder, api.Done)
	}
	const name = "pvc/c#3"
	does(t, p, plane.Attacher, api.Done, api.Write, name+"/n")
	does(t, p, plane.Attacher, api.Refused, api.Ask, name)
	does(t, p, plane.Keeper, api.Done, api.Write, "s") // it still waits, and the claim anew
	does(t, p, plane.Keeper, api.Done, api.Nothing, "")
	does(t, p, plane.Keeper, api.Done, api.Ask, "snap/s#5")
	does(t, p, plane.Attacher, api.Done, api.Ask, name)
	if s := get(p, api.Snapshot, "s"); s.Phase != api.Ready {
		t.Errorf("%+v", s)
	}
	if a := get(p, api.Attach, name+"/n"); a.Phase != api.Attached {
		t.Errorf("%+v", a)
	}
}

// takeOver lets a replica have the lease of a controller, when that of the other one is over.
func takeOver(t *testing.T, p *plane.Plane, c plane.Part, replica int) {
	t.Helper()
	is(t, p.Tick(10), api.OK)
	is(t, p.Elect(c, replica), api.OK)
}

// P15.2: the failures of a key of which there is nothing to be done are forgotten.
func TestStepForgets(t *testing.T) {
	p := elected(t, class, claim)
	rest(t, p)
	other := func(want ...api.Do) {
		t.Helper()
		takeOver(t, p, plane.Keeper, 1)
		is(t, p.Crash(plane.Keeper, 1), api.OK)
		for _, do := range want {
			if a, e := p.Step(plane.Keeper, 1, api.Done); a.Do != do || e != api.OK {
				t.Fatalf("%+v, %d; want %d", a, e, do)
			}
		}
		takeOver(t, p, plane.Keeper, 0)
	}
	is(t, p.Grow("c", 6), api.OK)
	other(api.Write)
	for range 4 {
		does(t, p, plane.Keeper, api.LateLost, api.Ask, "pvc/c#2")
		is(t, p.Resync(plane.Keeper, 0), api.OK)
	}
	other(api.Ask, api.Write)
	does(t, p, plane.Keeper, api.LateLost, api.Nothing, "")
	is(t, p.Grow("c", 7), api.OK)
	other(api.Write)
	does(t, p, plane.Keeper, api.LateLost, api.Ask, "pvc/c#2")
	does(t, p, plane.Keeper, api.LateLost, api.Nothing, "")
	p.Tick(1)
	does(t, p, plane.Keeper, api.LateLost, api.Ask, "pvc/c#2")
}

// P15.3: by a Resync what is new waits where it stands among all, and is not seen as a change any more.
func TestResync(t *testing.T) {
	p := elected(t, api.Object{Kind: api.Claim, Name: "y", Class: "f", Size: 1})
	does(t, p, plane.Binder, api.Done, api.Nothing, "")
	create(t, p, api.Object{Kind: api.Claim, Name: "x", Class: "f", Size: 1})
	create(t, p, class)
	is(t, p.Resync(plane.Binder, 0), api.OK)
	does(t, p, plane.Binder, api.Done, api.Write, "x")
	does(t, p, plane.Binder, api.Done, api.Write, "y")
	does(t, p, plane.Binder, api.LateLost, api.Ask, "pvc/x#2")
	create(t, p, node)
	is(t, p.Resync(plane.Binder, 0), api.OK)
	does(t, p, plane.Binder, api.LateLost, api.Ask, "pvc/y#1")
	does(t, p, plane.Binder, api.LateLost, api.Ask, "pvc/x#2")
	does(t, p, plane.Binder, api.LateLost, api.Nothing, "")
}

// P15.3: a replica that crashed, or was told to, looks at all again, though nothing has changed.
func TestForgotten(t *testing.T) {
	for what, again := range map[string]func(p *plane.Plane) api.Errno{
		"Crash":  func(p *plane.Plane) api.Errno { return p.Crash(plane.Binder, 0) },
		"Resync": func(p *plane.Plane) api.Errno { return p.Resync(plane.Binder, 0) },
	} {
		p := elected(t, class, claim)
		does(t, p, plane.Binder, api.Done, api.Write, "c")
		for range 3 {
			does(t, p, plane.Binder, api.LateLost, api.Ask, "pvc/c#2")
			does(t, p, plane.Binder, api.LateLost, api.Nothing, "")
			was := told(p)
			is(t, p.Crash(plane.Binder, 1), api.OK) // the other one
			is(t, p.Resync(plane.Binder, 1), api.OK)
			is(t, p.Resync(plane.Keeper, 0), api.OK)
			does(t, p, plane.Binder, api.LateLost, api.Nothing, "")
			is(t, again(p), api.OK)
			if told(p) != was {
				t.Fatalf("%s: %s", what, told(p))
			}
		}
		does(t, p, plane.Binder, api.LateLost, api.Ask, "pvc/c#2")
		delay := map[string]int{"Crash": 1, "Resync": 8}[what] // by a Resync failures are not forgotten
		for range delay {
			is(t, p.Elect(plane.Binder, 0), api.OK)
			does(t, p, plane.Binder, api.LateLost, api.Nothing, "")
			p.Tick(1)
		}
		is(t, p.Elect(plane.Binder, 0), api.OK)
		does(t, p, plane.Binder, api.LateLost, api.Ask, "pvc/c#2")
	}
}

// P15.3: a Crash leaves the lease, and what the replica's other one has seen.
func TestCrash(t *testing.T) {
	p := elected(t, class, claim)
	for c := plane.Binder; c <= plane.Keeper; c++ {
		is(t, p.Crash(c, 0), api.OK)
		is(t, p.Elect(c, 1), api.ErrHeld)
	}
	does(t, p, plane.Binder, api.Done, api.Write, "c")
	does(t, p, plane.Binder, api.LateLost, api.Ask, "pvc/c#2")
	is(t, p.Crash(plane.Binder, 1), api.OK)
	does(t, p, plane.Binder, api.LateLost, api.Nothing, "")
	is(t, p.Tick(10), api.OK)
	is(t, p.Elect(plane.Binder, 1), api.OK)
	a, e := p.Step(plane.Binder, 1, api.Done)
	if e != api.OK || a.Do != api.Ask || len(p.Volumes()) != 1 {
		t.Errorf("%+v, %d", a, e)
	}
	is(t, stepped(t, p, plane.Binder, 0, api.Done), api.ErrHeld)
}

// P15.3: by a loss of power all replicas forget; leases and time go on.
func TestPowerForgets(t *testing.T) {
	p := elected(t, class, claim)
	p.Tick(2)
	does(t, p, plane.Binder, api.Done, api.Write, "c")
	does(t, p, plane.Binder, api.LateLost, api.Ask, "pvc/c#2")
	for range 3 {
		does(t, p, plane.Binder, api.LateLost, api.Nothing, "")
		is(t, p.Power(node, 0, 0), api.OK)
		does(t, p, plane.Binder, api.LateLost, api.Ask, "pvc/c#2")
	}
	p.Tick(1) // each time it has failed but once
	does(t, p, plane.Binder, api.LateLost, api.Ask, "pvc/c#2")
	if p.Now() != 3 || p.Elect(plane.Keeper, 1) != api.ErrHeld {
		t.Errorf("at %d", p.Now())
	}
}
