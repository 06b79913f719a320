package plane_test

import (
	"math/rand"
	"slices"
	"strconv"
	"strings"
	"testing"

	"wharfinger/api"
	"wharfinger/attach"
	"wharfinger/bind"
	"wharfinger/data"
	"wharfinger/plane"
)

// world is a plane that is watched: what was once, and may never be otherwise.
type world struct {
	*plane.Plane
	// books are the objects as they were last seen; there the driver's volumes.
	books map[api.Key]api.Object
	there map[string]api.DriverVolume
	// tags are all that were in a volume, of any time; cut the tags of the snapshots of a name that were Ready.
	tags, cut map[string][]uint64
	// sizes are those that a volume had last, be it gone or not; modes those of all volumes.
	sizes map[string]int64
	modes map[string]api.Mode
	// another are the Handles of claims that were Bound to another volume.
	another map[string]struct{}
}

func newWorld(t *testing.T, zones ...api.Zone) *world {
	t.Helper()
	p := plane.New(zones...)
	if p == nil {
		t.Fatal("no plane")
	}
	w := &world{p, nil, nil, map[string][]uint64{}, map[string][]uint64{}, map[string]int64{}, map[string]api.Mode{}, map[string]struct{}{}}
	w.look(t)
	return w
}

// look holds what is there to what was, and to what may be.
func (w *world) look(t *testing.T) {
	t.Helper()
	books, there := map[api.Key]api.Object{}, map[string]api.DriverVolume{}
	for _, o := range w.Objects() {
		books[api.Key{Kind: o.Kind, Name: o.Name}] = o
	}
	for _, v := range w.Volumes() {
		there[v.Name] = v
	}
	for name := range w.there {
		if _, ok := there[name]; !ok {
			w.mayGo(t, name)
		}
	}
	w.books, w.there = books, there
	for _, o := range books {
		w.remember(o)
	}
	for _, v := range there {
		w.lookAtVolume(t, v)
	}
	for _, s := range w.Snaps() {
		w.lookAtSnap(t, s)
	}
	for _, o := range books {
		w.lookAtObject(t, o)
	}
}

// mayGo tells that what the driver has no more was nobody's, and not to be kept.
func (w *world) mayGo(t *testing.T, name string) {
	t.Helper()
	v := w.books[api.Key{Kind: api.Volume, Name: name}]
	for _, c := range w.books {
		if c.Kind == api.Claim && (c.Volume == name || v.Claim != "" && v.Claim == bind.Ref(c)) {
			t.Fatalf("%s is erased, which %+v has", name, c)
		}
	}
	if v.Keep {
		t.Fatalf("%+v is erased, which is to be kept", v)
	}
}

func (w *world) remember(o api.Object) {
	switch {
	case o.Kind == api.Volume:
		w.modes[o.Name] = o.Mode
	case o.Kind == api.Claim && o.Phase == api.Bound && o.Volume != bind.Handle(o):
		w.another[bind.Handle(o)] = struct{}{}
	case o.Kind == api.Snapshot && o.Phase == api.Ready && !slices.Contains(w.cut[o.Name], o.Tag):
		w.cut[o.Name] = append(w.cut[o.Name], o.Tag)
	}
}

// claimOf is the claim for which a volume of the driver was made.
func (w *world) claimOf(volume string) (api.Object, bool) {
	for _, o := range w.books {
		if o.Kind == api.Claim && bind.Handle(o) == volume {
			return o, true
		}
	}
	return api.Object{}, false
}

func (w *world) lookAtVolume(t *testing.T, v api.DriverVolume) {
	t.Helper()
	claim, claimed := w.claimOf(v.Name)
	_, booked := w.books[api.Key{Kind: api.Volume, Name: v.Name}]
	_, other := w.another[v.Name]
	if strings.HasPrefix(v.Name, "pvc/") && !claimed && !booked && !other {
		t.Fatalf("nothing tells of %+v", v)
	}
	if v.Size < w.sizes[v.Name] {
		t.Fatalf("%+v was of %d", v, w.sizes[v.Name])
	}
	if len(v.Nodes) > 1 && w.modes[v.Name] != api.Many {
		t.Fatalf("of one node: %+v", v)
	}
	for _, node := range v.Nodes {
		if _, ok := w.books[api.Key{Kind: api.Attach, Name: v.Name + "/" + node}]; !ok {
			t.Fatalf("nothing tells that %s is at %s", v.Name, node)
		}
	}
	if len(w.tags[v.Name]) == 0 && claimed {
		if claim.Source != "" && !slices.Contains(w.cut[claim.Source], v.Tag) || claim.Source == "" && v.Tag != 0 {
			t.Fatalf("%+v is made for %+v", v, claim)
		}
	}
	w.sizes[v.Name] = v.Size
	if !slices.Contains(w.tags[v.Name], v.Tag) {
		w.tags[v.Name] = append(w.tags[v.Name], v.Tag)
	}
}

func (w *world) lookAtSnap(t *testing.T, s api.DriverSnap) {
	t.Helper()
	for _, o := range w.books {
		if o.Kind == api.Snapshot && data.Handle(o) == s.Name {
			if o.Phase == api.Ready && (o.Tag != s.Tag || o.Got != s.Size || !slices.Contains(w.tags[o.Volume], o.Tag)) {
				t.Fatalf("%+v is %+v", o, s)
			}
			return
		}
	}
	t.Fatalf("nothing tells of %+v", s)
}

func (w *world) lookAtObject(t *testing.T, o api.Object) {
	t.Helper()
	switch {
	case o.Kind == api.Volume && o.Phase != api.Erasing && o.Got > w.there[o.Name].Size,
		o.Kind == api.Claim && o.Got > w.there[o.Volume].Size:
		t.Fatalf("%+v has more than the driver: %+v", o, w.there)
	case o.Kind == api.Snapshot && o.Phase == api.Ready:
		if !slices.ContainsFunc(w.Snaps(), func(s api.DriverSnap) bool { return s.Name == data.Handle(o) }) {
			t.Fatalf("%+v is not at the driver", o)
		}
	}
}

// begin makes what most of what users do asks for.
func (w *world) begin(t *testing.T) {
	t.Helper()
	for _, name := range []string{"f", "g", "w", "k"} {
		create(t, w.Plane, api.Object{Kind: api.Class, Name: name, Zone: "a", Wait: name == "w", Keep: name == "k"})
	}
	for i, zone := range []string{"a", "a", "a", "b"} {
		create(t, w.Plane, api.Object{Kind: api.Node, Name: "n" + strconv.Itoa(i), Zone: zone})
	}
}

func pick[T any](r *rand.Rand, l ...T) T {
	return l[r.Intn(len(l))]
}

// anObject is one that a user makes.
func anObject(r *rand.Rand) api.Object {
	n, other := strconv.Itoa(r.Intn(4)), strconv.Itoa(r.Intn(4))
	mode := pick(r, api.NoMode, api.Single, api.Many)
	class := pick(r, "f", "g", "w", "k")
	switch r.Intn(14) {
	case 0:
		return api.Object{Kind: api.Class, Name: class, Zone: pick(r, "a", "b"), Wait: class == "w", Keep: class == "k"}
	case 1:
		return api.Object{Kind: api.Node, Name: "n" + n, Zone: pick(r, "a", "b")}
	case 2:
		return api.Object{Kind: api.Volume, Name: "v" + n, Class: class, Size: int64(3 + r.Intn(9)), Mode: mode, Zone: pick(r, "a", "b"), Keep: r.Intn(3) == 0}
	case 3, 4:
		return api.Object{Kind: api.Claim, Name: "c" + n, Class: class, Size: int64(3 + r.Intn(9)), Mode: mode}
	case 5, 6:
		return api.Object{Kind: api.Claim, Name: "c" + n, Class: class, Size: int64(9 + r.Intn(9)), Mode: mode, Source: "s" + other}
	case 7, 8, 9, 10:
		return api.Object{Kind: api.Pod, Name: "p" + n, Claim: "c" + other}
	}
	return api.Object{Kind: api.Snapshot, Name: "s" + n, Source: "c" + other}
}

// user does one of the things that users do.
func (w *world) user(r *rand.Rand) {
	n := strconv.Itoa(r.Intn(4))
	switch r.Intn(12) {
	case 0, 1, 2, 3:
		w.Create(anObject(r))
	case 4, 5, 6:
		w.Place("p"+n, "n"+strconv.Itoa(r.Intn(4)))
	case 7:
		w.Grow("c"+n, int64(3+r.Intn(15)))
	case 8, 9:
		for _, v := range w.Volumes() {
			w.Put(v.Name, "n"+n, uint64(1+r.Intn(1000)))
		}
	case 10:
		w.Delete(api.Key{Kind: api.Pod, Name: "p" + n})
	case 11:
		o := anObject(r)
		w.Delete(api.Key{Kind: o.Kind, Name: o.Name})
	}
}

// mishap lets something go wrong.
func (w *world) mishap(r *rand.Rand) {
	c, replica := plane.Part(r.Intn(3)), r.Intn(2)
	switch r.Intn(6) {
	case 0:
		w.Crash(c, replica)
	case 1:
		w.Power(anObject(r), r.Intn(3), r.Intn(65))
	case 2:
		w.Resync(c, replica)
	case 3:
		w.Tick(1 + r.Intn(20))
	default:
		if n := len(w.Sent()); n > 0 {
			w.Again(r.Intn(n))
		}
	}
}

// step lets one replica of each controller act; true, if one of them has done anything.
func (w *world) step(t *testing.T, r *rand.Rand, outcome func() api.Outcome) bool {
	t.Helper()
	acted := false
	for c := plane.Binder; c <= plane.Keeper; c++ {
		replica := r.Intn(2)
		if w.Elect(c, replica) != api.OK {
			replica = 1 - replica
		}
		a, _ := w.Step(c, replica, outcome())
		w.look(t)
		acted = acted || a.Do != api.Nothing
	}
	return acted
}

// rest lets all act, nothing failing, till nothing is done any more, however long one waits.
func (w *world) rest(t *testing.T, r *rand.Rand) {
	t.Helper()
	quiet := 0
	for range 3000 {
		w.Tick(1)
		quiet++
		if w.step(t, r, func() api.Outcome { return api.Done }) {
			quiet = 0
		}
		if quiet > 300 {
			return
		}
	}
	t.Fatalf("no rest: %+v", w.Objects())
}

// atRest tells that what can be done is done.
func (w *world) atRest(t *testing.T) {
	t.Helper()
	for _, o := range w.Objects() {
		switch o.Kind {
		case api.Claim:
			w.claimAtRest(t, o)
		case api.Volume:
			w.volumeAtRest(t, o)
		case api.Snapshot:
			source := w.books[api.Key{Kind: api.Claim, Name: o.Source}]
			if o.Deleting || o.Phase != api.Ready && (o.Phase != api.Pending || source.Phase == api.Bound) {
				t.Fatalf("at rest there is %+v of %+v", o, source)
			}
		case api.Attach:
			if o.Phase != api.Attached {
				t.Fatalf("at rest there is %+v", o)
			}
		}
	}
}

func (w *world) claimAtRest(t *testing.T, c api.Object) {
	t.Helper()
	v := w.books[api.Key{Kind: api.Volume, Name: c.Volume}]
	switch {
	case c.Deleting:
		for _, p := range w.books {
			if p.Kind == api.Pod && p.Claim == c.Name {
				return
			}
		}
		t.Fatalf("at rest there is %+v, of no pod", c)
	case c.Phase == api.Bound:
		if v.Phase != api.Bound || v.Claim != bind.Ref(c) || v.Got < c.Size || c.Got != v.Got || v.Got != w.there[v.Name].Size {
			t.Fatalf("at rest there is %+v with %+v", c, v)
		}
	case c.Phase == api.Creating || w.canHave(c):
		t.Fatalf("at rest there is %+v", c)
	}
}

// canHave tells whether a volume can be had for a claim that waits.
func (w *world) canHave(c api.Object) bool {
	if _, ok := bind.Best(w.Objects(), c); ok {
		return true
	}
	class, hasClass := w.books[api.Key{Kind: api.Class, Name: c.Class}]
	_, hasNode := w.books[api.Key{Kind: api.Node, Name: c.Node}]
	s := w.books[api.Key{Kind: api.Snapshot, Name: c.Source}]
	return hasClass && (hasNode || !class.Wait) && (c.Source == "" || s.Phase == api.Ready && s.Got <= c.Size)
}

func (w *world) volumeAtRest(t *testing.T, v api.Object) {
	t.Helper()
	at, wanted := w.there[v.Name].Nodes, attach.Wanted(w.Objects(), v.Name)
	if v.Mode == api.Single && len(at) == 1 && slices.Contains(wanted, at[0]) {
		wanted = at // the others wait
	}
	if !slices.Equal(wanted, at) {
		t.Fatalf("at rest %+v is at %q", v, at)
	}
	if v.Phase == api.Erasing || v.Phase == api.Available && v.Deleting && !v.Keep {
		t.Fatalf("at rest there is %+v", v)
	}
}

// happen lets users, mishaps and replicas take turns, whatever becomes of calls.
func (w *world) happen(t *testing.T, r *rand.Rand, turns int) {
	t.Helper()
	w.begin(t)
	for range turns {
		w.user(r)
		w.look(t)
		if r.Intn(3) == 0 {
			w.mishap(r)
			w.look(t)
		}
		for range r.Intn(4) {
			w.step(t, r, func() api.Outcome { return api.Outcome(r.Intn(4)) })
		}
	}
}

// P15.5 to P15.10, and E2 to E6: whatever is refused, lost, late or doubled, whoever crashes, and when the power goes.
func TestWorld(t *testing.T) {
	for seed := range 50 {
		r := rand.New(rand.NewSource(int64(seed)))
		w := newWorld(t, api.Zone{Name: "a", Room: 1 << 20}, api.Zone{Name: "b", Room: 1 << 20})
		w.happen(t, r, 150)
		w.rest(t, r)
		w.atRest(t)
		for i := range w.Sent() {
			w.Again(i)
			w.look(t)
		}
	}
}

// P15.5 to P15.9: where there is not room for all, too.
func TestNarrowWorld(t *testing.T) {
	for seed := range 30 {
		r := rand.New(rand.NewSource(int64(seed)))
		w := newWorld(t, api.Zone{Name: "a", Room: 25}, api.Zone{Name: "b", Room: 12})
		w.happen(t, r, 150)
	}
}
