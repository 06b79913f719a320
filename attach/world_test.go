package attach_test

import (
	"math/rand"
	"slices"
	"strconv"
	"strings"
	"testing"

	"wharfinger/api"
	"wharfinger/attach"
	"wharfinger/call"
	"wharfinger/object"
	"wharfinger/store"
)

// world is a store and a client, between which the acts of this package are done: of a volume of one node, and one of many.
type world struct {
	s *store.Store
	c *call.Client
}

var volumeNames = []string{"one", "many"}

func newWorld(t *testing.T) *world {
	t.Helper()
	w := &world{store.New(api.MaxBlocks), call.New(api.Zone{Name: "z", Room: 100})}
	for i, name := range volumeNames {
		mode := []api.Mode{api.Single, api.Many}[i]
		w.put(t, api.Object{Kind: api.Volume, Name: name, Class: "f", Size: 5, Mode: mode, Zone: "z", Claim: "c-" + name + "#1", Phase: api.Bound})
		w.put(t, api.Object{Kind: api.Claim, Name: "c-" + name, Class: "f", Size: 5, Mode: mode, Volume: name, Phase: api.Bound})
		if r := w.c.Send(api.Call{Verb: api.Create, Target: name, Num: 1, Size: 5, Zone: "z"}, api.Done); r.Err != api.OK {
			t.Fatal(r)
		}
	}
	return w
}

func (w *world) put(t *testing.T, o api.Object) {
	t.Helper()
	if _, e := w.s.Put(object.Default(o)); e != api.OK {
		t.Fatalf("Put(%+v): %d", o, e)
	}
}

// step does what is next for a volume, and what is next behind a call for it; false: nothing was changed.
func (w *world) step(t *testing.T, volume string, o api.Outcome) bool {
	t.Helper()
	a := attach.Volume(w.s.All(), w.s.Version(), volume)
	if a.Do == api.Ask {
		r := w.c.Send(a.Call, o)
		if r.Err == api.ErrForm || r.Err == api.ErrConflict {
			t.Fatalf("%+v: %+v", a.Call, r)
		}
		a = attach.After(w.s.All(), w.s.Version(), a.Call, r)
	}
	switch a.Do {
	case api.Write:
		if !object.Right(a.Object) {
			t.Fatalf("%+v is not right", a.Object)
		}
		w.put(t, a.Object)
	case api.Remove:
		if e := w.s.Remove(object.Key(a.Object), a.Object.Version); e != api.OK {
			t.Fatalf("Remove(%+v): %d", a.Object, e)
		}
	case api.Ask:
		t.Fatalf("behind a call comes another one: %+v", a)
	}
	w.holds(t)
	return a.Do != api.Nothing
}

// nodes are those at which a volume is published.
func (w *world) nodes(volume string) []string {
	for _, v := range w.c.Volumes() {
		if v.Name == volume {
			return v.Nodes
		}
	}
	return nil
}

// holds tells that one node has what is of one node, and that nothing is published of which no attachment tells.
func (w *world) holds(t *testing.T) {
	t.Helper()
	if l := attach.Attachments(w.s.All(), "one"); len(l) > 1 || len(w.nodes("one")) > 1 {
		t.Fatalf("a volume of one node has %+v, and is at %q", l, w.nodes("one"))
	}
	for _, name := range volumeNames {
		for _, node := range w.nodes(name) {
			if _, ok := w.s.Get(api.Key{Kind: api.Attach, Name: name + "/" + node}); !ok {
				t.Fatalf("nothing tells that %s is at %s", name, node)
			}
		}
	}
}

// rest does what is next, nothing failing, till there is nothing.
func (w *world) rest(t *testing.T) {
	t.Helper()
	for range 60 {
		one, many := w.step(t, "one", api.Done), w.step(t, "many", api.Done)
		if !one && !many {
			return
		}
	}
	t.Fatalf("no rest: %+v", w.s.All())
}

// user lets a pod come or go, a volume be given up or taken again, or a call come late.
func (w *world) user(t *testing.T, r *rand.Rand) {
	t.Helper()
	pod := api.Key{Kind: api.Pod, Name: "p" + strconv.Itoa(r.Intn(4))}
	switch r.Intn(8) {
	case 0, 1, 2:
		if _, there := w.s.Get(pod); !there {
			claim := "c-" + volumeNames[r.Intn(2)]
			w.put(t, api.Object{Kind: api.Pod, Name: pod.Name, Claim: claim, Node: string(rune('k' + r.Intn(3))), Hold: r.Intn(4) == 0})
		}
	case 3, 4:
		w.s.Delete(pod)
	case 5:
		if p, there := w.s.Get(pod); there && p.Deleting {
			w.s.Remove(pod, p.Version)
		}
	case 6:
		v, _ := w.s.Get(api.Key{Kind: api.Volume, Name: volumeNames[r.Intn(2)]})
		v.Phase = api.Bound + api.Released - v.Phase
		w.put(t, v)
	case 7:
		if n := len(w.c.Sent()); n > 0 {
			w.c.Again(r.Intn(n))
		}
	}
	w.holds(t)
}

// P13.4, P13.2, and E2, E3 and E6 of this layer: whatever is lost, late, or doubled.
func TestWorld(t *testing.T) {
	for seed := range 60 {
		r := rand.New(rand.NewSource(int64(seed)))
		w := newWorld(t)
		for range 200 {
			w.user(t, r)
			for range 4 {
				w.step(t, volumeNames[r.Intn(2)], api.Outcome(r.Intn(4)))
			}
		}
		w.rest(t)
		for _, name := range volumeNames {
			wanted, at := attach.Wanted(w.s.All(), name), w.nodes(name)
			if name == "one" && len(wanted) > 1 {
				wanted = slices.DeleteFunc(wanted, func(node string) bool { return !slices.Contains(at, node) })
				if len(wanted) != 1 {
					t.Fatalf("seed %d: at rest %s is at %q", seed, name, at)
				}
			}
			if !slices.Equal(wanted, at) || len(attach.Attachments(w.s.All(), name)) != len(at) {
				t.Fatalf("seed %d: at rest %s is at %q; want %q", seed, name, at, wanted)
			}
		}
		for i := range w.c.Sent() {
			w.c.Again(i)
			w.holds(t)
		}
	}
}

// P13.2, P13.4: of two nodes that want one volume of one node the second one gets it when the first one's attachment is gone.
func TestTwoPods(t *testing.T) {
	w := newWorld(t)
	w.put(t, api.Object{Kind: api.Pod, Name: "p", Claim: "c-one", Node: "n"})
	w.rest(t)
	w.put(t, api.Object{Kind: api.Pod, Name: "q", Claim: "c-one", Node: "m"})
	w.rest(t)
	if l := strings.Join(w.nodes("one"), " "); l != "n" {
		t.Fatalf("at %q; want the first one", l)
	}
	w.s.Delete(api.Key{Kind: api.Pod, Name: "p"})
	for _, o := range []api.Outcome{api.Refused, api.LateLost, api.LateDone, api.LateLost, api.Refused} { // the first one is but written
		w.step(t, "one", o)
		if len(attach.Attachments(w.s.All(), "one")) != 1 {
			t.Fatal("the first one is forgotten, though nobody was told that it is gone")
		}
	}
	w.rest(t)
	if l := strings.Join(w.nodes("one"), " "); l != "m" {
		t.Fatalf("at %q; want the second one", l)
	}
}
