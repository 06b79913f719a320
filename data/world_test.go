package data_test

import (
	"math/rand"
	"slices"
	"strconv"
	"strings"
	"testing"

	"wharfinger/api"
	"wharfinger/attach"
	"wharfinger/bind"
	"wharfinger/call"
	"wharfinger/data"
	"wharfinger/object"
	"wharfinger/store"
)

// world is a store and a client, between which the acts of this package are done, and those of bind and attach.
type world struct {
	s *store.Store
	c *call.Client
	// tags are all that were in a volume, of any time; made the tags of the snapshots of a name that were Ready.
	tags, made map[string][]uint64
	// sizes are those of the driver's volumes, as they were last seen.
	sizes map[string]int64
}

func newWorld(t *testing.T) *world {
	t.Helper()
	w := &world{store.New(api.MaxBlocks), call.New(api.Zone{Name: "z", Room: 1 << 20}), map[string][]uint64{}, map[string][]uint64{}, map[string]int64{}}
	w.put(t, api.Object{Kind: api.Class, Name: "f", Zone: "z"})
	return w
}

func (w *world) put(t *testing.T, o api.Object) {
	t.Helper()
	if _, e := w.s.Put(object.Default(o)); e != api.OK {
		t.Fatalf("Put(%+v): %d", o, e)
	}
}

func (w *world) get(kind api.Kind, name string) api.Object {
	o, _ := w.s.Get(api.Key{Kind: kind, Name: name})
	return o
}

// job is what one of three controllers does for a key.
type job struct {
	part int
	key  api.Key
}

func (w *world) next(j job) api.Act {
	all, version := w.s.All(), w.s.Version()
	switch {
	case j.part == 0 && j.key.Kind == api.Claim:
		return bind.Claim(all, version, j.key.Name)
	case j.part == 0:
		return bind.Volume(all, version, j.key.Name)
	case j.part == 1:
		return attach.Volume(all, version, j.key.Name)
	case j.key.Kind == api.Claim:
		return data.Claim(all, version, j.key.Name)
	}
	return data.Snapshot(all, version, j.key.Name)
}

func (w *world) behind(j job, c api.Call, r api.Result) api.Act {
	all, version := w.s.All(), w.s.Version()
	switch j.part {
	case 0:
		return bind.After(all, version, j.key, c, r)
	case 1:
		return attach.After(all, version, c, r)
	}
	return data.After(all, version, j.key, c, r)
}

func (w *world) jobs() []job {
	var l []job
	for _, o := range w.s.All() {
		switch k := object.Key(o); o.Kind {
		case api.Claim:
			l = append(l, job{0, k}, job{2, k})
		case api.Volume:
			l = append(l, job{0, k}, job{1, k})
		case api.Snapshot:
			l = append(l, job{2, k})
		}
	}
	return l
}

// step does what is next for a key, and what is next behind a call for it; false: nothing was changed.
func (w *world) step(t *testing.T, j job, o api.Outcome) bool {
	t.Helper()
	a := w.next(j)
	if a.Do == api.Ask {
		w.mayAsk(t, a.Call)
		r := w.c.Send(a.Call, o)
		if r.Err == api.ErrForm || r.Err == api.ErrConflict || r.Err == api.ErrFull {
			t.Fatalf("%+v: %+v", a.Call, r)
		}
		a = w.behind(j, a.Call, r)
	}
	switch a.Do {
	case api.Write:
		w.mayWrite(t, a.Object)
		w.put(t, a.Object)
	case api.Remove:
		if e := w.s.Remove(object.Key(a.Object), a.Object.Version); e != api.OK {
			t.Fatalf("Remove(%+v): %d", a.Object, e)
		}
	}
	w.holds(t)
	return a.Do != api.Nothing
}

// mayAsk holds what is Erased, or Dropped, to being nobody's.
func (w *world) mayAsk(t *testing.T, c api.Call) {
	t.Helper()
	for _, o := range w.s.List(api.Claim) {
		switch {
		case c.Verb == api.Erase && o.Volume == c.Target:
			t.Fatalf("%+v is Erased, which %+v has", c, o)
		case c.Verb == api.Drop && o.Phase == api.Creating && c.Target == data.Handle(w.get(api.Snapshot, o.Source)):
			t.Fatalf("%+v is Dropped, of which the volume of %+v is made", c, o)
		}
	}
}

// mayWrite holds what is written to being right, and to no size that falls.
func (w *world) mayWrite(t *testing.T, o api.Object) {
	t.Helper()
	was := w.get(o.Kind, o.Name)
	if !object.Right(o) || o.Size < was.Size || o.Kind == api.Volume && o.Got < was.Got {
		t.Fatalf("%+v becomes %+v", was, o)
	}
	if o.Kind == api.Snapshot && o.Phase == api.Ready {
		w.made[o.Name] = append(w.made[o.Name], o.Tag)
	}
}

// holds tells what holds at any time.
func (w *world) holds(t *testing.T) {
	t.Helper()
	for _, v := range w.c.Volumes() {
		w.look(t, v)
	}
	for _, s := range w.c.Snaps() {
		if !slices.ContainsFunc(w.s.List(api.Snapshot), func(o api.Object) bool { return data.Handle(o) == s.Name }) {
			t.Fatalf("nothing tells of %+v", s)
		}
	}
	for _, s := range w.s.List(api.Snapshot) {
		i := slices.IndexFunc(w.c.Snaps(), func(x api.DriverSnap) bool { return x.Name == data.Handle(s) })
		if s.Phase == api.Ready && (i < 0 || w.c.Snaps()[i].Tag != s.Tag || w.c.Snaps()[i].Size != s.Got || !slices.Contains(w.tags[s.Volume], s.Tag)) {
			t.Fatalf("%+v is not what its volume was: %v", s, w.tags[s.Volume])
		}
	}
	for _, v := range w.s.List(api.Volume) {
		if v.Phase == api.Bound && v.Got > w.sizes[v.Name] {
			t.Fatalf("%+v has more than there is at the driver", v)
		}
		if l := attach.Attachments(w.s.All(), v.Name); v.Mode == api.Single && len(l) > 1 {
			t.Fatalf("of one node: %+v", l)
		}
	}
}

// look holds a volume of the driver to what it was, and to what the books tell of it.
func (w *world) look(t *testing.T, v api.DriverVolume) {
	t.Helper()
	if v.Size < w.sizes[v.Name] {
		t.Fatalf("%+v was of %d", v, w.sizes[v.Name])
	}
	w.sizes[v.Name] = v.Size
	claim := slices.IndexFunc(w.s.List(api.Claim), func(o api.Object) bool { return bind.Handle(o) == v.Name })
	book, booked := w.s.Get(api.Key{Kind: api.Volume, Name: v.Name})
	if claim < 0 && !booked {
		t.Fatalf("nothing tells of %+v", v)
	}
	if len(w.tags[v.Name]) == 0 && claim >= 0 {
		source := w.s.List(api.Claim)[claim].Source
		if source != "" && !slices.Contains(w.made[source], v.Tag) || source == "" && v.Tag != 0 {
			t.Fatalf("%+v is made of %s, and begins so", v, source)
		}
	}
	w.tags[v.Name] = append(w.tags[v.Name], v.Tag)
	if booked && book.Mode == api.Single && len(v.Nodes) > 1 {
		t.Fatalf("of one node: %+v", v)
	}
	for _, node := range v.Nodes {
		if w.get(api.Attach, v.Name+"/"+node).Phase == api.NoPhase {
			t.Fatalf("nothing tells that %s is at %s", v.Name, node)
		}
	}
}

// rest does what is next, nothing failing, till there is nothing.
func (w *world) rest(t *testing.T) {
	t.Helper()
	for range 60 {
		changed := false
		for _, j := range w.jobs() {
			changed = w.step(t, j, api.Done) || changed
		}
		if !changed {
			return
		}
	}
	t.Fatalf("no rest: %+v", w.s.All())
}

// user does one of the things that a user may do, or lets a call come late.
func (w *world) user(t *testing.T, r *rand.Rand) {
	t.Helper()
	n := strconv.Itoa(r.Intn(3))
	claim, snap, pod := w.get(api.Claim, "c"+n), w.get(api.Snapshot, "s"+n), w.get(api.Pod, "p"+n)
	other := strconv.Itoa(r.Intn(3))
	switch r.Intn(10) {
	case 0:
		if claim.Kind == api.NoKind {
			mode := []api.Mode{api.Single, api.Many}[r.Intn(2)]
			w.put(t, api.Object{Kind: api.Claim, Name: "c" + n, Class: "f", Size: int64(5 + r.Intn(9)), Mode: mode, Source: pick(r.Intn, "", "s"+other)})
		}
	case 1:
		if snap.Kind == api.NoKind {
			w.put(t, api.Object{Kind: api.Snapshot, Name: "s" + n, Source: "c" + other})
		}
	case 2, 3:
		if pod.Kind == api.NoKind {
			w.put(t, api.Object{Kind: api.Pod, Name: "p" + n, Claim: "c" + other, Node: pick(r.Intn, "m", "n")})
		}
	case 4:
		w.s.Delete(api.Key{Kind: pick(r.Intn, api.Claim, api.Snapshot, api.Pod), Name: pick(r.Intn, "c", "s", "p") + n})
	case 5:
		w.s.Delete(object.Key(pod))
	case 6:
		if claim.Phase == api.Bound && !claim.Deleting {
			w.put(t, size(claim, claim.Size+int64(1+r.Intn(4))))
		}
	case 7, 8:
		for _, v := range w.c.Volumes() {
			w.c.Put(v.Name, pick(r.Intn, "m", "n"), uint64(1+r.Intn(1000)))
		}
	case 9:
		if n := len(w.c.Sent()); n > 0 {
			w.c.Again(r.Intn(n))
		}
	}
	w.holds(t)
}

// atRest tells that what could be done is done.
func (w *world) atRest(t *testing.T) {
	t.Helper()
	for _, c := range w.s.List(api.Claim) {
		s := w.get(api.Snapshot, c.Source)
		waits := c.Phase == api.Pending && c.Source != "" && (s.Phase != api.Ready || s.Got > c.Size)
		v := w.get(api.Volume, c.Volume)
		if c.Deleting && len(w.s.List(api.Pod)) == 0 || !waits && (c.Phase != api.Bound || v.Got < c.Size || c.Got != v.Got || v.Got != w.sizes[v.Name]) {
			t.Fatalf("at rest there is %+v with %+v", c, v)
		}
	}
	for _, s := range w.s.List(api.Snapshot) {
		if s.Deleting || s.Phase == api.Cutting || s.Phase == api.Pending && w.get(api.Claim, s.Source).Phase == api.Bound {
			t.Fatalf("at rest there is %+v", s)
		}
	}
	for _, v := range w.c.Volumes() {
		wanted := attach.Wanted(w.s.All(), v.Name)
		if len(wanted) > 1 && w.get(api.Volume, v.Name).Mode == api.Single && len(v.Nodes) == 1 && slices.Contains(wanted, v.Nodes[0]) {
			continue
		}
		if !slices.Equal(wanted, v.Nodes) {
			t.Fatalf("at rest %+v is wanted at %q", v, wanted)
		}
	}
}

// P14.5, P13.4, and E2 to E6 of these layers: whatever fails, is lost, late, or doubled.
func TestWorld(t *testing.T) {
	for seed := range 60 {
		r := rand.New(rand.NewSource(int64(seed)))
		w := newWorld(t)
		for range 150 {
			w.user(t, r)
			if l := w.jobs(); len(l) > 0 {
				for range 5 {
					w.step(t, l[r.Intn(len(l))], api.Outcome(r.Intn(4)))
				}
			}
		}
		w.rest(t)
		w.atRest(t)
	}
}

// P14.2, P14.4: a claim of 10 that asks for 20 has them, whatever becomes of the call.
func TestGrow(t *testing.T) {
	w := newWorld(t)
	w.put(t, api.Object{Kind: api.Claim, Name: "c", Class: "f", Size: 10})
	w.rest(t)
	w.put(t, size(w.get(api.Claim, "c"), 20))
	for _, o := range []api.Outcome{api.Done, api.Refused, api.LateLost, api.LateDone, api.LateLost} { // the first one is but written
		w.step(t, job{2, claimC}, o)
	}
	claim := w.get(api.Claim, "c")
	if v := w.get(api.Volume, claim.Volume); v.Size != 20 || v.Got != 10 || v.Num == 0 || claim.Got != 10 {
		t.Fatalf("nobody was told that it has grown: %+v has %+v", claim, v)
	}
	w.rest(t)
	claim = w.get(api.Claim, "c")
	v := w.get(api.Volume, claim.Volume)
	if room, _ := w.c.Room("z"); v.Size != 20 || v.Got != 20 || v.Num != 0 || claim.Got != 20 || room != 1<<20-20 {
		t.Fatalf("%+v has %+v", claim, v)
	}
}

// P14.3, P14.4: a snapshot is what its volume was, once; what is made of it begins so; given up it is gone, with what comes late.
func TestCut(t *testing.T) {
	w := newWorld(t)
	w.put(t, api.Object{Kind: api.Claim, Name: "c", Class: "f", Size: 10})
	w.put(t, api.Object{Kind: api.Pod, Name: "p", Claim: "c", Node: "n"})
	w.rest(t)
	volume := w.get(api.Claim, "c").Volume
	w.c.Put(volume, "n", 77)
	w.put(t, api.Object{Kind: api.Snapshot, Name: "s", Source: "c"})
	for _, o := range []api.Outcome{api.Done, api.LateLost, api.LateDone, api.Refused} { // the first one is but written
		w.step(t, job{2, snapS}, o)
	}
	w.c.Put(volume, "n", 78)
	w.rest(t)
	if s := w.get(api.Snapshot, "s"); s.Phase != api.Ready || s.Tag != 77 || s.Got != 10 {
		t.Fatalf("%+v", s)
	}
	w.put(t, api.Object{Kind: api.Claim, Name: "d", Class: "f", Size: 10, Source: "s"})
	w.step(t, job{0, api.Key{Kind: api.Claim, Name: "d"}}, api.Done)
	w.s.Delete(snapS)
	for range 4 {
		w.step(t, job{2, snapS}, api.Done)
	}
	if len(w.c.Snaps()) != 1 {
		t.Fatal("it is gone, though a volume is made of it")
	}
	w.rest(t)
	made := slices.IndexFunc(w.c.Volumes(), func(v api.DriverVolume) bool { return strings.HasPrefix(v.Name, "pvc/d#") })
	if made < 0 || w.c.Volumes()[made].Tag != 77 || len(w.c.Snaps()) != 0 {
		t.Fatalf("%+v %+v", w.c.Volumes(), w.c.Snaps())
	}
	for i := range w.c.Sent() {
		w.c.Again(i)
	}
	if len(w.c.Snaps()) != 0 || w.get(api.Snapshot, "s").Kind != api.NoKind {
		t.Fatalf("%+v are left", w.c.Snaps())
	}
}

// P14.4: of a volume that is gone a snapshot waits for another one.
func TestCutOfNothing(t *testing.T) {
	w := newWorld(t)
	w.put(t, api.Object{Kind: api.Claim, Name: "c", Class: "f", Size: 10})
	w.rest(t)
	w.put(t, api.Object{Kind: api.Snapshot, Name: "s", Source: "c"})
	w.step(t, job{2, snapS}, api.Done)
	volume := w.get(api.Claim, "c").Volume
	if r := w.c.Send(api.Call{Verb: api.Erase, Target: volume, Num: w.s.Version() + 1}, api.Done); r.Err != api.OK {
		t.Fatal(r)
	}
	w.step(t, job{2, snapS}, api.Done)
	if s := w.get(api.Snapshot, "s"); s.Phase != api.Pending || s.Volume != "" {
		t.Fatalf("%+v", s)
	}
}
