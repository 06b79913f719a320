package plane

import (
	"testing"

	"wharfinger/api"
)

// P15.3: the end of time is nothing that a test could wait for.
func TestEndOfTime(t *testing.T) {
	p := New(api.Zone{Name: "a"})
	p.now = latest - 5
	for _, n := range []int{4, 1, 1, maxTick} {
		if e := p.Tick(n); e != api.OK {
			t.Fatalf("Tick(%d): error %d", n, e)
		}
	}
	if p.Now() != 1<<50 {
		t.Errorf("now %d", p.Now())
	}
	if e := p.Elect(Binder, 0); e != api.OK {
		t.Errorf("Elect: error %d", e)
	}
}

// P15.2: who acts by an elder term is told so.
func TestStale(t *testing.T) {
	p := New(api.Zone{Name: "a"})
	p.Elect(Binder, 0)
	p.teams[Binder].guard.Check(p.teams[Binder].lease.Term + 1)
	if a, e := p.Step(Binder, 0, api.Done); e != api.ErrStale || a != (api.Act{}) {
		t.Errorf("%+v, error %d", a, e)
	}
}
