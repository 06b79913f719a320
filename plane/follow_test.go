package plane_test

import (
	"slices"
	"testing"

	"wharfinger/api"
	"wharfinger/object"
	"wharfinger/plane"
)

var outcomes = []api.Outcome{api.Done, api.Refused, api.LateDone, api.LateLost}

func nodesOf(p *plane.Plane, volume string) []string {
	for _, v := range p.Volumes() {
		if v.Name == volume {
			return v.Nodes
		}
	}
	return nil
}

// rest lets the first replicas act till nothing is done any more, however long one waits.
func rest(t *testing.T, p *plane.Plane) {
	t.Helper()
	round(t, p, 200)
	sent, version := len(p.Sent()), newest(p)
	round(t, p, 100)
	if len(p.Sent()) != sent || newest(p) != version {
		t.Fatalf("no rest: %s", told(p))
	}
}

// newest is the version of the last write of what is there.
func newest(p *plane.Plane) uint64 {
	version := uint64(0)
	for _, o := range p.Objects() {
		version = max(version, o.Version)
	}
	return version
}

// again lets all that was ever sent come once more, from the first one on and from the last one on.
func again(p *plane.Plane) {
	n := len(p.Sent())
	for i := range n {
		p.Again(i)
	}
	for i := range n {
		p.Again(n - 1 - i)
	}
}

// placed is a plane at rest that has a volume, published where its pod is.
func placed(t *testing.T, l ...api.Object) *plane.Plane {
	t.Helper()
	p := newPlane(t, append([]api.Object{class, node, claim, pod}, l...)...)
	is(t, p.Place("p", "n"), api.OK)
	rest(t, p)
	if l := nodesOf(p, "pvc/c#3"); !slices.Equal(l, []string{"n"}) {
		t.Fatal(told(p))
	}
	return p
}

// P15.1, P15.2, P15.10: a class, a claim, a pod that is Placed: the claim is Bound, its volume published at the pod's node.
func TestExample(t *testing.T) {
	p := plane.New(api.Zone{Name: "a", Room: 100 << 30})
	for _, o := range []api.Object{class, node, {Kind: api.Claim, Name: "c", Class: "f", Size: 10 << 30}, pod} {
		create(t, p, o)
	}
	is(t, p.Place("p", "n"), api.OK)
	round(t, p, 10)
	c, v := get(p, api.Claim, "c"), p.Volumes()
	if c.Phase != api.Bound || c.Volume != "pvc/c#3" || c.Got != 10<<30 || len(v) != 1 || v[0].Name != c.Volume || v[0].Size != c.Got || !slices.Equal(v[0].Nodes, []string{"n"}) {
		t.Error(told(p))
	}
}

// P15.5, E2: a second pod at another node waits till the first one is gone, whatever becomes of the calls.
func TestOneNode(t *testing.T) {
	for _, o := range outcomes {
		p := placed(t, api.Object{Kind: api.Node, Name: "m", Zone: "a"}, api.Object{Kind: api.Pod, Name: "q", Claim: "c"})
		is(t, p.Place("q", "m"), api.OK)
		rest(t, p)
		again(p)
		if l := nodesOf(p, "pvc/c#3"); !slices.Equal(l, []string{"n"}) {
			t.Fatalf("%d: at %q", o, l)
		}
		is(t, p.Delete(object.Key(pod)), api.OK)
		is(t, p.Elect(plane.Attacher, 0), api.OK)
		for i := range 30 {
			is(t, stepped(t, p, plane.Attacher, 0, o), api.OK)
			if i%5 == 0 {
				again(p)
			}
			if l := nodesOf(p, "pvc/c#3"); len(l) > 1 {
				t.Fatalf("%d: at %q", o, l)
			}
		}
		rest(t, p)
		again(p)
		if l := nodesOf(p, "pvc/c#3"); !slices.Equal(l, []string{"m"}) {
			t.Fatalf("%d: at %q", o, l)
		}
	}
}

// P15.5: a volume of many nodes is where its pods are.
func TestManyNodes(t *testing.T) {
	p := newPlane(t, class, node, api.Object{Kind: api.Claim, Name: "c", Class: "f", Size: 5, Mode: api.Many}, pod,
		api.Object{Kind: api.Node, Name: "m", Zone: "b"}, api.Object{Kind: api.Pod, Name: "q", Claim: "c"})
	is(t, p.Place("p", "n"), api.OK)
	is(t, p.Place("q", "m"), api.OK)
	rest(t, p)
	if l := nodesOf(p, "pvc/c#3"); !slices.Equal(l, []string{"m", "n"}) {
		t.Errorf("at %q", l)
	}
}

// P15.6, E3: of a claim that is called off while its volume is being made nothing is left, however late its call comes.
func TestNothingLeft(t *testing.T) {
	for _, o := range outcomes {
		p := elected(t, class, claim)
		does(t, p, plane.Binder, o, api.Write, "c")
		does(t, p, plane.Binder, o, api.Ask, "pvc/c#2")
		is(t, p.Delete(object.Key(claim)), api.OK)
		is(t, p.Power(node, 0, 7), api.OK)
		rest(t, p)
		again(p)
		if len(p.Volumes()) != 0 || len(p.Objects()) != 1 {
			t.Errorf("%d: %s", o, told(p))
		}
	}
}

// P15.6, E3: a call that got lost is asked again with the same number, by whomever, and done once.
func TestDoneOnce(t *testing.T) {
	for _, o := range []api.Outcome{api.LateDone, api.LateLost} {
		p := elected(t, class, claim)
		does(t, p, plane.Binder, api.Done, api.Write, "c")
		first := does(t, p, plane.Binder, o, api.Ask, "pvc/c#2")
		is(t, p.Crash(plane.Binder, 0), api.OK)
		second := does(t, p, plane.Binder, o, api.Ask, "pvc/c#2")
		p.Tick(10)
		is(t, p.Elect(plane.Binder, 1), api.OK)
		third, e := p.Step(plane.Binder, 1, api.Done)
		if first != second || second != third || e != api.OK || len(p.Volumes()) != 1 {
			t.Errorf("%+v\n%+v\n%+v", first, second, third)
		}
	}
}

// P15.6: what was asked for a claim that took another volume may be left; nothing else.
func TestAnotherVolume(t *testing.T) {
	p := elected(t, class, claim)
	does(t, p, plane.Binder, api.Done, api.Write, "c")
	does(t, p, plane.Binder, api.LateLost, api.Ask, "pvc/c#2")
	p.Tick(1)
	does(t, p, plane.Binder, api.Refused, api.Ask, "pvc/c#2") // it waits again
	create(t, p, api.Object{Kind: api.Volume, Name: "v", Class: "f", Size: 9, Zone: "b"})
	rest(t, p)
	is(t, p.Again(0), api.OK)
	c := get(p, api.Claim, "c")
	if c.Phase != api.Bound || c.Volume != "v" || c.Got != 9 || c.Zone != "b" || len(p.Volumes()) != 2 {
		t.Error(told(p))
	}
}

// P15.7, E4: what is to be kept is kept, whoever gives it up.
func TestKeep(t *testing.T) {
	kept := api.Object{Kind: api.Volume, Name: "v", Class: "g", Size: 3, Zone: "a", Keep: true}
	p := newPlane(t, api.Object{Kind: api.Class, Name: "f", Zone: "a", Keep: true}, claim, kept)
	rest(t, p)
	for _, k := range []api.Key{object.Key(claim), object.Key(kept), {Kind: api.Volume, Name: "pvc/c#2"}} {
		is(t, p.Delete(k), api.OK)
	}
	rest(t, p)
	again(p)
	if l := p.Volumes(); len(l) != 2 || get(p, api.Claim, "c") != (api.Object{}) || get(p, api.Volume, "pvc/c#2").Phase != api.Released || get(p, api.Volume, "v").Phase != api.Available {
		t.Error(told(p))
	}
}

// P15.7, E4: what a claim has is there as long as the claim, and that as long as its pods; then it goes.
func TestHad(t *testing.T) {
	p := placed(t)
	is(t, p.Delete(api.Key{Kind: api.Volume, Name: "pvc/c#3"}), api.OK)
	rest(t, p)
	is(t, p.Delete(object.Key(claim)), api.OK)
	rest(t, p)
	again(p)
	if l := p.Volumes(); len(l) != 1 || !slices.Equal(l[0].Nodes, []string{"n"}) || get(p, api.Claim, "c").Phase != api.Bound {
		t.Fatal(told(p))
	}
	is(t, p.Delete(object.Key(pod)), api.OK)
	rest(t, p)
	again(p)
	if len(p.Volumes()) != 0 || len(p.Objects()) != 2 {
		t.Error(told(p))
	}
}

// P15.8, E5: a claim that asks for more has it in the end; nothing ever has less, nor more than the driver.
func TestGrowth(t *testing.T) {
	for _, o := range outcomes {
		p := placed(t)
		is(t, p.Grow("c", 20), api.OK)
		is(t, p.Elect(plane.Keeper, 0), api.OK)
		size := int64(5)
		for range 12 {
			is(t, stepped(t, p, plane.Keeper, 0, o), api.OK)
			again(p)
			at := p.Volumes()[0].Size
			if c, v := get(p, api.Claim, "c"), get(p, api.Volume, "pvc/c#3"); at < size || v.Got > at || c.Got > at || c.Got < 5 {
				t.Fatalf("%d: %+v has %+v, at the driver %d", o, c, v, at)
			}
			size = at
		}
		rest(t, p)
		if c, v := get(p, api.Claim, "c"), get(p, api.Volume, "pvc/c#3"); c.Got != 20 || v.Got != 20 || v.Size != 20 || p.Volumes()[0].Size != 20 {
			t.Errorf("%d: %+v has %+v", o, c, v)
		}
	}
}

// P15.8: what has no room stays as it was.
func TestNoGrowth(t *testing.T) {
	p := placed(t)
	is(t, p.Grow("c", 51), api.OK)
	round(t, p, 30)
	if c, v := get(p, api.Claim, "c"), get(p, api.Volume, "pvc/c#3"); c.Got != 5 || v.Got != 5 || p.Volumes()[0].Size != 5 {
		t.Errorf("%+v has %+v", c, v)
	}
}

// P15.9, E5: a snapshot is what its volume was; what is made of it begins so, and then goes its own way.
func TestSnapshot(t *testing.T) {
	for _, o := range outcomes {
		p := placed(t)
		is(t, p.Put("pvc/c#3", "n", 77), api.OK)
		create(t, p, snap)
		is(t, p.Elect(plane.Keeper, 0), api.OK)
		for range 3 { // it is written that it is being cut; it is asked for
			is(t, stepped(t, p, plane.Keeper, 0, o), api.OK)
		}
		is(t, p.Put("pvc/c#3", "n", 78), api.OK)
		again(p)
		rest(t, p)
		s := get(p, api.Snapshot, "s")
		cut := uint64(77)
		if o == api.Refused || o == api.LateLost { // it was not done ahead of the other tag
			cut = 78
		}
		if s.Phase != api.Ready || s.Got != 5 || s.Tag != cut {
			t.Fatalf("%d: %+v", o, s)
		}
		is(t, p.Put("pvc/c#3", "n", 79), api.OK)
		create(t, p, api.Object{Kind: api.Claim, Name: "d", Class: "f", Size: 6, Source: "s"})
		rest(t, p)
		again(p)
		d := get(p, api.Claim, "d")
		i := slices.IndexFunc(p.Volumes(), func(v api.DriverVolume) bool { return v.Name == d.Volume })
		if d.Phase != api.Bound || i < 0 || p.Volumes()[i].Tag != s.Tag || get(p, api.Snapshot, "s") != s || p.Volumes()[0].Tag != 79 {
			t.Errorf("%d: %s", o, told(p))
		}
	}
}

// P15.9, P15.6: a snapshot that is given up goes, but not while something is made of it.
func TestSnapshotGone(t *testing.T) {
	p := placed(t, snap)
	create(t, p, api.Object{Kind: api.Claim, Name: "d", Class: "f", Size: 6, Source: "s"})
	is(t, p.Elect(plane.Binder, 0), api.OK)
	for range 20 {
		if get(p, api.Claim, "d").Phase != api.Creating {
			is(t, stepped(t, p, plane.Binder, 0, api.Refused), api.OK)
		}
	}
	is(t, p.Delete(object.Key(snap)), api.OK)
	is(t, p.Elect(plane.Keeper, 0), api.OK)
	for range 9 {
		is(t, stepped(t, p, plane.Keeper, 0, api.Done), api.OK)
	}
	if len(p.Snaps()) != 1 {
		t.Fatal("it is gone, and a volume is being made of it")
	}
	rest(t, p)
	again(p)
	if len(p.Snaps()) != 0 || get(p, api.Snapshot, "s") != (api.Object{}) || get(p, api.Claim, "d").Phase != api.Bound {
		t.Error(told(p))
	}
}

// P15.10: a claim of a class with Wait waits, at rest, for a pod that is placed; its volume is where that is.
func TestWait(t *testing.T) {
	p := newPlane(t, api.Object{Kind: api.Class, Name: "f", Zone: "a", Wait: true}, api.Object{Kind: api.Node, Name: "n", Zone: "b"}, claim, pod)
	rest(t, p)
	if len(p.Sent()) != 0 || get(p, api.Claim, "c").Phase != api.Pending {
		t.Fatal(told(p))
	}
	is(t, p.Place("p", "n"), api.OK)
	rest(t, p)
	if l := p.Volumes(); len(l) != 1 || l[0].Zone != "b" || !slices.Equal(l[0].Nodes, []string{"n"}) {
		t.Error(told(p))
	}
}

// P15.10, E6: when users have given all up, nothing is left.
func TestAllGivenUp(t *testing.T) {
	p := placed(t, volume, snap, api.Object{Kind: api.Claim, Name: "d", Class: "f", Size: 6, Source: "s"})
	is(t, p.Grow("c", 9), api.OK)
	rest(t, p)
	for _, o := range p.Objects() {
		if o.Kind != api.Attach {
			is(t, p.Delete(object.Key(o)), api.OK)
		}
	}
	rest(t, p)
	again(p)
	if len(p.Objects())+len(p.Volumes())+len(p.Snaps()) != 0 {
		t.Error(told(p))
	}
}
