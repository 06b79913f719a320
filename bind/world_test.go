package bind_test

import (
	"math/rand"
	"slices"
	"strconv"
	"strings"
	"testing"

	"wharfinger/api"
	"wharfinger/bind"
	"wharfinger/call"
	"wharfinger/object"
	"wharfinger/store"
)

// world is a store and a client, between which the acts of this package are done.
type world struct {
	s *store.Store
	c *call.Client
	// another are the Handles of claims that took another volume: what was asked for them may be there, and have no object.
	another map[string]struct{}
}

func newWorld(t *testing.T) *world {
	w := &world{store.New(api.MaxBlocks), call.New(api.Zone{Name: "a", Room: 1000}, api.Zone{Name: "b", Room: 1000}), map[string]struct{}{}}
	w.put(t, api.Object{Kind: api.Class, Name: "f", Zone: "a"})
	w.put(t, api.Object{Kind: api.Class, Name: "kept", Zone: "b", Keep: true})
	w.put(t, api.Object{Kind: api.Class, Name: "waits", Zone: "a", Wait: true})
	w.put(t, api.Object{Kind: api.Node, Name: "n", Zone: "b"})
	return w
}

func (w *world) put(t *testing.T, o api.Object) {
	t.Helper()
	if _, e := w.s.Put(object.Default(o)); e != api.OK {
		t.Fatalf("Put(%+v): %d", o, e)
	}
}

// offer is a volume of nobody, at the driver and in the store.
func (w *world) offer(t *testing.T, name string, size int64, keep bool) {
	t.Helper()
	if _, ok := w.s.Get(api.Key{Kind: api.Volume, Name: name}); ok {
		return
	}
	x := api.Call{Verb: api.Create, Target: name, Num: w.s.Version() + 1, Size: size, Zone: "a"}
	if r := w.c.Send(x, api.Done); r.Err != api.OK {
		t.Fatalf("%+v: %+v", x, r)
	}
	w.put(t, api.Object{Kind: api.Volume, Name: name, Class: "f", Size: size, Zone: "a", Keep: keep})
}

func (w *world) next(k api.Key) api.Act {
	if k.Kind == api.Claim {
		return bind.Claim(w.s.All(), w.s.Version(), k.Name)
	}
	return bind.Volume(w.s.All(), w.s.Version(), k.Name)
}

// step does what is next for a key, and what is next behind a call for it; false: nothing was changed.
func (w *world) step(t *testing.T, k api.Key, o api.Outcome) bool {
	t.Helper()
	a := w.next(k)
	if a.Do != api.Ask {
		return w.do(t, a)
	}
	w.mayAsk(t, a.Call)
	r := w.c.Send(a.Call, o)
	if r.Err == api.ErrForm || r.Err == api.ErrConflict {
		t.Fatalf("%+v: %+v", a.Call, r)
	}
	return w.do(t, bind.After(w.s.All(), w.s.Version(), k, a.Call, r))
}

func (w *world) do(t *testing.T, a api.Act) bool {
	t.Helper()
	switch a.Do {
	case api.Write:
		if !object.Right(a.Object) {
			t.Fatalf("%+v is not right", a.Object)
		}
		if _, handle := refOf(a.Object); a.Object.Kind == api.Claim && a.Object.Phase == api.Bound && a.Object.Volume != handle {
			w.another[handle] = struct{}{}
		}
		w.put(t, a.Object)
	case api.Remove:
		if e := w.s.Remove(object.Key(a.Object), a.Object.Version); e != api.OK {
			t.Fatalf("Remove(%+v): %d", a.Object, e)
		}
	}
	return a.Do != api.Nothing
}

// mayAsk holds what is Erased to being nobody's, and not to be kept.
func (w *world) mayAsk(t *testing.T, c api.Call) {
	t.Helper()
	if c.Verb != api.Erase {
		return
	}
	for _, o := range w.s.All() {
		ref, _ := refOf(o)
		v, _ := w.s.Get(api.Key{Kind: api.Volume, Name: c.Target})
		switch {
		case o.Kind == api.Claim && o.Volume == c.Target, o.Kind == api.Claim && ref == v.Claim:
			t.Fatalf("%+v is Erased, which %+v has", c, o)
		case o.Kind == api.Volume && o.Name == c.Target && o.Keep:
			t.Fatalf("%+v is Erased, that is to be kept", o)
		}
	}
}

// holds tells that what a claim has is there and its own, and that nothing is left at the driver that no object tells of.
func (w *world) holds(t *testing.T) {
	t.Helper()
	told := map[string]struct{}{}
	for _, v := range w.s.List(api.Volume) {
		told[v.Name] = struct{}{}
	}
	for _, c := range w.s.List(api.Claim) {
		ref, handle := refOf(c)
		told[handle] = struct{}{}
		if c.Phase != api.Bound {
			continue
		}
		v, ok := w.s.Get(api.Key{Kind: api.Volume, Name: c.Volume})
		if !ok || v.Claim != ref || v.Phase != api.Bound || v.Got < c.Size || v.Class != c.Class {
			t.Fatalf("%+v has %+v", c, v)
		}
	}
	for _, v := range w.c.Volumes() {
		_, ok := told[v.Name]
		if _, left := w.another[v.Name]; !ok && !left && strings.HasPrefix(v.Name, "pvc/") {
			t.Fatalf("nothing tells of %+v", v)
		}
	}
	for _, v := range w.s.List(api.Volume) {
		if !slices.ContainsFunc(w.c.Volumes(), func(x api.DriverVolume) bool { return x.Name == v.Name && x.Size == v.Got }) && v.Phase != api.Erasing {
			t.Fatalf("%+v is not at the driver", v)
		}
	}
}

// keys are those of all claims and volumes.
func (w *world) keys() []api.Key {
	var l []api.Key
	for _, o := range append(w.s.List(api.Claim), w.s.List(api.Volume)...) {
		l = append(l, object.Key(o))
	}
	return l
}

// rest does what is next, nothing failing, till there is nothing.
func (w *world) rest(t *testing.T) {
	t.Helper()
	for range 40 {
		changed := false
		for _, k := range w.keys() {
			changed = w.step(t, k, api.Done) || changed
			w.holds(t)
		}
		if !changed {
			return
		}
	}
	t.Fatalf("no rest: %+v", w.s.All())
}

// user does one of the things that a user may do, or lets a call come late.
func (w *world) user(t *testing.T, r *rand.Rand) {
	t.Helper()
	name := "c" + strconv.Itoa(r.Intn(4))
	claim, there := w.s.Get(api.Key{Kind: api.Claim, Name: name})
	switch r.Intn(7) {
	case 0, 1:
		if !there {
			w.put(t, api.Object{Kind: api.Claim, Name: name, Class: pick(r.Intn, "f", "kept", "waits"), Size: int64(1 + r.Intn(9))})
		}
	case 2:
		w.s.Delete(api.Key{Kind: api.Claim, Name: name})
	case 3:
		w.offer(t, "v"+strconv.Itoa(r.Intn(3)), int64(1+r.Intn(9)), r.Intn(3) == 0)
	case 4:
		w.s.Delete(api.Key{Kind: api.Volume, Name: "v" + strconv.Itoa(r.Intn(3))})
	case 5:
		if there && claim.Phase == api.Pending && claim.Node == "" {
			claim.Node = "n"
			w.put(t, claim)
		}
	case 6:
		if n := len(w.c.Sent()); n > 0 {
			w.c.Again(r.Intn(n))
		}
	}
}

// P12.5, P12.6, and E3, E4 and E6 of these layers: whatever fails, is lost, late, or doubled.
func TestWorld(t *testing.T) {
	for seed := range 60 {
		r := rand.New(rand.NewSource(int64(seed)))
		w := newWorld(t)
		for range 150 {
			w.user(t, r)
			w.holds(t)
			if l := w.keys(); len(l) > 0 {
				for range 3 {
					w.step(t, l[r.Intn(len(l))], api.Outcome(r.Intn(4)))
					w.holds(t)
				}
			}
		}
		w.rest(t)
		for _, c := range w.s.List(api.Claim) {
			waits := c.Phase == api.Pending && c.Class == "waits" && c.Node == ""
			if c.Deleting || c.Phase != api.Bound && !waits {
				t.Fatalf("seed %d: at rest there is %+v", seed, c)
			}
		}
		for _, v := range w.s.List(api.Volume) {
			if v.Phase == api.Erasing || v.Deleting && !v.Keep && v.Phase == api.Available {
				t.Fatalf("seed %d: at rest there is %+v", seed, v)
			}
		}
	}
}

// P12.4, P11.3: a volume whose Create got lost is made once, and taken; given up it is gone, with what comes late.
func TestLostCreate(t *testing.T) {
	w := newWorld(t)
	w.put(t, api.Object{Kind: api.Claim, Name: "c", Class: "f", Size: 8})
	for _, o := range []api.Outcome{api.Done, api.LateLost, api.LateDone, api.LateDone, api.LateLost} { // the first one is but written
		w.step(t, claimC, o)
		w.holds(t)
	}
	if c, _ := w.s.Get(claimC); c.Phase != api.Creating || len(w.c.Volumes()) != 1 {
		t.Fatalf("%+v %+v", c, w.c.Volumes())
	}
	w.rest(t)
	c, _ := w.s.Get(claimC)
	if room, _ := w.c.Room("a"); c.Phase != api.Bound || c.Got != 8 || room != 992 {
		t.Fatalf("%+v, room %d", c, room)
	}
	w.s.Delete(claimC)
	w.rest(t)
	for i := range w.c.Sent() {
		w.c.Again(i)
	}
	if len(w.keys()) > 0 || len(w.c.Volumes()) > 0 {
		t.Fatalf("%+v %+v are left", w.keys(), w.c.Volumes())
	}
}

// P12.2, P12.4: a claim that is called off leaves nothing at the driver, whenever its Create comes.
func TestCalledOff(t *testing.T) {
	for _, o := range []api.Outcome{api.Refused, api.LateDone, api.LateLost} {
		w := newWorld(t)
		w.put(t, api.Object{Kind: api.Claim, Name: "c", Class: "f", Size: 8})
		w.step(t, claimC, api.Done)
		w.step(t, claimC, o)
		w.s.Delete(claimC)
		w.rest(t)
		if e := w.c.Again(0); e != api.ErrStale || len(w.keys()) > 0 || len(w.c.Volumes()) > 0 {
			t.Errorf("%d: %d, %+v %+v are left", o, e, w.keys(), w.c.Volumes())
		}
	}
}
