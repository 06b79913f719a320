package plane_test

import (
	"fmt"
	"strings"
	"testing"

	"wharfinger/api"
	"wharfinger/plane"
)

var (
	class  = api.Object{Kind: api.Class, Name: "f", Zone: "a"}
	node   = api.Object{Kind: api.Node, Name: "n", Zone: "a"}
	claim  = api.Object{Kind: api.Claim, Name: "c", Class: "f", Size: 5}
	volume = api.Object{Kind: api.Volume, Name: "v", Class: "g", Size: 3, Zone: "a"}
	pod    = api.Object{Kind: api.Pod, Name: "p", Claim: "c"}
	snap   = api.Object{Kind: api.Snapshot, Name: "s", Source: "c"}
)

// newPlane is one of the zones a and b, with some objects.
func newPlane(t *testing.T, l ...api.Object) *plane.Plane {
	t.Helper()
	p := plane.New(api.Zone{Name: "a", Room: 50}, api.Zone{Name: "b", Room: 50})
	if p == nil {
		t.Fatal("no plane")
	}
	for _, o := range l {
		create(t, p, o)
	}
	return p
}

func create(t *testing.T, p *plane.Plane, o api.Object) {
	t.Helper()
	is(t, p.Create(o), api.OK)
}

func is(t *testing.T, got, want api.Errno) {
	t.Helper()
	if got != want {
		t.Fatalf("error %d; want %d", got, want)
	}
}

func get(p *plane.Plane, kind api.Kind, name string) api.Object {
	for _, o := range p.Objects() {
		if o.Kind == kind && o.Name == name {
			return o
		}
	}
	return api.Object{}
}

func objectIs(t *testing.T, p *plane.Plane, want api.Object) {
	t.Helper()
	if got := get(p, want.Kind, want.Name); got != want {
		t.Fatalf("%+v\nwant %+v", got, want)
	}
}

// round lets the first replica of each controller act, so often.
func round(t *testing.T, p *plane.Plane, n int) {
	t.Helper()
	for range n {
		for c := plane.Binder; c <= plane.Keeper; c++ {
			is(t, p.Elect(c, 0), api.OK)
			step(t, p, c, api.Done)
		}
		is(t, p.Tick(1), api.OK)
	}
}

// step lets the first replica of a controller act, which has the lease.
func step(t *testing.T, p *plane.Plane, c plane.Part, o api.Outcome) api.Act {
	t.Helper()
	a, e := p.Step(c, 0, o)
	is(t, e, api.OK)
	return a
}

// elected is a plane the first replicas of which have the leases.
func elected(t *testing.T, l ...api.Object) *plane.Plane {
	t.Helper()
	p := newPlane(t, l...)
	for c := plane.Binder; c <= plane.Keeper; c++ {
		is(t, p.Elect(c, 0), api.OK)
	}
	return p
}

// told is all that a plane tells.
func told(p *plane.Plane) string {
	return fmt.Sprintf("%+v\n%+v\n%+v\n%d\n%+v", p.Objects(), p.Volumes(), p.Snaps(), p.Now(), p.Sent())
}

// future is all that a plane tells, and what becomes of it: what it keeps shows in what it does.
func future(p *plane.Plane) string {
	var b strings.Builder
	b.WriteString(told(p))
	for first := range 2 {
		f := p.Fork()
		for i := range 30 {
			for c := plane.Binder; c <= plane.Keeper; c++ {
				for replica := range 2 {
					e := f.Elect(c, (first+replica)%2)
					a, e2 := f.Step(c, (first+replica)%2, api.Outcome(i%4))
					fmt.Fprintln(&b, e, a, e2)
				}
			}
			f.Tick(1 + i%3)
		}
		b.WriteString(told(f))
	}
	return b.String()
}

// refuses holds a call to an error, by which nothing changes.
func refuses(t *testing.T, p *plane.Plane, what string, want api.Errno, do func() api.Errno) {
	t.Helper()
	was := future(p)
	if got := do(); got != want {
		t.Errorf("%s: error %d; want %d", what, got, want)
	}
	if future(p) != was {
		t.Errorf("%s: refused, and something has changed", what)
	}
}
