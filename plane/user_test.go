package plane_test

import (
	"strconv"
	"strings"
	"testing"

	"wharfinger/api"
	"wharfinger/object"
	"wharfinger/plane"
)

// P15.1: there is a plane just over drivers that there may be.
func TestNew(t *testing.T) {
	var many []api.Zone
	for i := range 17 {
		many = append(many, api.Zone{Name: "z" + strconv.Itoa(i), Room: api.MaxSize})
	}
	for _, l := range [][]api.Zone{nil, {{}}, {{Name: "A"}}, {{Name: "a", Room: -1}}, {{Name: "a", Room: api.MaxSize + 1}}, {{Name: "a"}, {Name: "a"}}, many} {
		if plane.New(l...) != nil {
			t.Errorf("%+v: there is a plane", l)
		}
	}
	for _, l := range [][]api.Zone{{{Name: "a"}}, {{Name: "a", Room: 1}, {Name: "b", Room: 1}}, many[:16]} {
		if p := plane.New(l...); p == nil || len(p.Objects())+len(p.Volumes())+len(p.Snaps())+len(p.Sent()) != 0 || p.Now() != 0 {
			t.Errorf("%+v: no plane, or not an empty one", l)
		}
	}
}

// P15.1: what a user makes is in the store, with what was left out.
func TestCreate(t *testing.T) {
	l := []api.Object{class, node, claim, pod, snap}
	p := newPlane(t, l...)
	for i, o := range l {
		want := object.Default(o)
		want.Version = uint64(i + 1)
		want.Born = want.Version
		objectIs(t, p, want)
	}
	if len(p.Objects()) != len(l) || len(p.Sent()) != 0 || len(p.Volumes()) != 0 {
		t.Error(told(p))
	}
	for _, o := range l {
		refuses(t, p, "Create of what is there", api.ErrConflict, func() api.Errno { return p.Create(o) })
	}
}

// P15.1: with MaxObjects there is no room.
func TestCreateFull(t *testing.T) {
	p := newPlane(t)
	for i := range api.MaxObjects {
		create(t, p, api.Object{Kind: api.Class, Name: strconv.Itoa(i)})
	}
	refuses(t, p, "Create", api.ErrFull, func() api.Errno { return p.Create(class) })
	is(t, p.Delete(api.Key{Kind: api.Class, Name: "7"}), api.OK)
	create(t, p, class)
}

// notUsers are objects that no user may make, most of them of one thing that is wrong.
func notUsers() []api.Object {
	with := func(o api.Object, change func(*api.Object)) api.Object {
		change(&o)
		return o
	}
	l := []api.Object{
		{},
		{Kind: api.Attach, Volume: "v", Node: "n", Phase: api.Attaching},
		{Kind: api.Snapshot + 1, Name: "x"},
		{Kind: api.Class},
		{Kind: api.Class, Name: "X"},
		{Kind: api.Class, Name: strings.Repeat("x", api.MaxName+1)},
		{Kind: api.Node, Name: "n"},
		{Kind: api.Node, Name: "n/m", Zone: "a"},
		{Kind: api.Claim, Name: "c", Size: 5},
		{Kind: api.Claim, Name: "c", Class: "f"},
		{Kind: api.Pod, Name: "p"},
		{Kind: api.Snapshot, Name: "s"},
		with(claim, func(o *api.Object) { o.Size = -1 }),
		with(claim, func(o *api.Object) { o.Size = api.MaxSize + 1 }),
		with(claim, func(o *api.Object) { o.Mode = api.Many + 1 }),
		with(claim, func(o *api.Object) { o.Phase = api.Creating }),
		with(claim, func(o *api.Object) { o.Node = "n" }),
		with(claim, func(o *api.Object) { o.Zone = "a" }),
		with(claim, func(o *api.Object) { o.Got = 1 }),
		with(claim, func(o *api.Object) { o.Phase, o.Volume = api.Bound, "v" }),
		with(claim, func(o *api.Object) { o.Keep = true }),
		with(volume, func(o *api.Object) { o.Claim = "c#1" }),
		with(volume, func(o *api.Object) { o.Got = 4 }),
		with(volume, func(o *api.Object) { o.Zone = "" }),
		with(volume, func(o *api.Object) { o.Phase, o.Claim = api.Bound, "c#1" }),
		with(volume, func(o *api.Object) { o.Phase = api.Erasing }),
		with(pod, func(o *api.Object) { o.Node = "n" }),
		with(snap, func(o *api.Object) { o.Volume = "v" }),
		with(snap, func(o *api.Object) { o.Got = 1 }),
		with(snap, func(o *api.Object) { o.Phase = api.Ready }),
		with(snap, func(o *api.Object) { o.Tag = 1 }),
	}
	for _, o := range []api.Object{class, node, claim, volume, pod, snap} {
		l = append(l,
			with(o, func(o *api.Object) { o.Version = 1 }),
			with(o, func(o *api.Object) { o.Born = 1 }),
			with(o, func(o *api.Object) { o.Num = 1 }),
			with(o, func(o *api.Object) { o.Deleting = true }))
	}
	return l
}

// P15.1, E7: what no user may make is refused, and changes nothing.
func TestCreateForm(t *testing.T) {
	p := newPlane(t)
	for _, o := range notUsers() {
		if e := p.Create(o); e != api.ErrForm {
			t.Errorf("Create(%+v): error %d", o, e)
		}
	}
	if future(p) != future(newPlane(t)) {
		t.Error("refused, and something has changed")
	}
}

// P15.1: a volume that a user makes is made at the driver first.
func TestCreateVolume(t *testing.T) {
	p := newPlane(t, volume)
	want := object.Default(volume)
	want.Version, want.Born = 1, 1
	objectIs(t, p, want)
	if l := p.Volumes(); len(l) != 1 || l[0].Name != "v" || l[0].Size != 3 || l[0].Zone != "a" || len(l[0].Nodes) != 0 {
		t.Errorf("%+v", l)
	}
	if l := p.Sent(); len(l) != 1 || l[0] != (api.Call{Verb: api.Create, Target: "v", Num: 1, Size: 3, Zone: "a"}) {
		t.Errorf("%+v", l)
	}
	is(t, p.Create(volume), api.ErrConflict) // the driver has it; but so has the store
	if len(p.Volumes()) != 1 || len(p.Objects()) != 1 || len(p.Sent()) != 2 {
		t.Error(told(p))
	}
}

// P15.1: names of what is made for claims are no user's.
func TestCreateVolumeName(t *testing.T) {
	p := newPlane(t)
	v := volume
	for _, name := range []string{"pvc/x", "pvc/", "pvc/c#3"} {
		v.Name = name
		refuses(t, p, name, api.ErrRange, func() api.Errno { return p.Create(v) })
	}
	v.Class = "" // wrong of form, too: that is named first
	refuses(t, p, "of no class", api.ErrForm, func() api.Errno { return p.Create(v) })
	for _, name := range []string{"pvc", "pvc.x", "xpvc/", "p/pvc/x"} {
		v := volume
		v.Name = name
		create(t, p, v)
	}
	create(t, p, api.Object{Kind: api.Class, Name: "pvc/x"})
}

// P15.1: what the driver refuses is in no store.
func TestCreateVolumeAtDriver(t *testing.T) {
	p := newPlane(t)
	for _, x := range []struct {
		name string
		size int64
		zone string
		want api.Errno
	}{
		{"large", 51, "a", api.ErrSpace},
		{"large", 51, "a", api.ErrSpace},
		{"large", 1, "a", api.ErrConflict}, // another call of that number was done
		{"far", 1, "z", api.ErrNone},
		{"all", 50, "a", api.OK},
		{"more", 1, "a", api.ErrSpace},
		{"other", 1, "b", api.OK},
		{"other", 2, "b", api.ErrConflict},
	} {
		o := api.Object{Kind: api.Volume, Name: x.name, Class: "g", Size: x.size, Zone: x.zone}
		if e := p.Create(o); e != x.want {
			t.Errorf("Create(%+v): error %d; want %d", o, e, x.want)
		}
	}
	if len(p.Objects()) != 2 || len(p.Volumes()) != 2 || len(p.Sent()) != 8 {
		t.Error(told(p))
	}
}

// P15.1: a volume that was erased is not made again by an elder number.
func TestCreateVolumeAgain(t *testing.T) {
	p := newPlane(t, volume)
	is(t, p.Delete(object.Key(volume)), api.OK)
	round(t, p, 5)
	if len(p.Volumes())+len(p.Objects()) != 0 {
		t.Fatal(told(p))
	}
	is(t, p.Create(volume), api.ErrStale)
	is(t, p.Again(0), api.ErrStale)
	if len(p.Volumes())+len(p.Objects()) != 0 {
		t.Fatal(told(p))
	}
}

// P15.1: what is there is marked, if it has Hold, and else taken away; no user takes attachments away.
func TestDelete(t *testing.T) {
	p := newPlane(t, class, node, claim, volume, pod, snap)
	is(t, p.Place("p", "n"), api.OK)
	round(t, p, 12)
	if get(p, api.Attach, "pvc/c#3/n").Phase != api.Attached {
		t.Fatal(told(p))
	}
	for _, name := range []string{"pvc/c#3/n", "x", ""} {
		refuses(t, p, "Delete of an attachment", api.ErrForm, func() api.Errno { return p.Delete(api.Key{Kind: api.Attach, Name: name}) })
	}
	for _, k := range []api.Key{{}, {Kind: api.Class, Name: "c"}, {Kind: api.Claim}, {Kind: api.Snapshot + 1, Name: "c"}} {
		refuses(t, p, "Delete of what is not there", api.ErrNone, func() api.Errno { return p.Delete(k) })
	}
	for _, o := range []api.Object{class, node, pod} {
		is(t, p.Delete(object.Key(o)), api.OK)
		if get(p, o.Kind, o.Name) != (api.Object{}) {
			t.Errorf("%+v is there", o)
		}
	}
	for _, o := range []api.Object{claim, volume, snap} {
		want := get(p, o.Kind, o.Name)
		is(t, p.Delete(object.Key(o)), api.OK)
		is(t, p.Delete(object.Key(o)), api.OK) // it is marked already
		got := get(p, o.Kind, o.Name)
		want.Deleting, want.Version = true, got.Version
		if got != want {
			t.Errorf("%+v\nwant %+v", got, want)
		}
	}
}

// P15.1: a claim that has its volume may ask for more.
func TestGrow(t *testing.T) {
	p := newPlane(t, class, claim)
	refuses(t, p, "of none", api.ErrNone, func() api.Errno { return p.Grow("x", 9) })
	refuses(t, p, "of none", api.ErrNone, func() api.Errno { return p.Grow("f", -9) })
	refuses(t, p, "of one that waits", api.ErrRange, func() api.Errno { return p.Grow("c", 9) })
	round(t, p, 4)
	want := get(p, api.Claim, "c")
	if want.Phase != api.Bound {
		t.Fatalf("%+v", want)
	}
	for _, size := range []int64{-1, 0, 4, 5, api.MaxSize + 1} {
		refuses(t, p, "to "+strconv.FormatInt(size, 10), api.ErrRange, func() api.Errno { return p.Grow("c", size) })
	}
	for _, size := range []int64{6, 50, api.MaxSize} {
		is(t, p.Grow("c", size), api.OK)
		want.Size = size
		want.Version++
		objectIs(t, p, want)
	}
	q := newPlane(t, class, claim)
	round(t, q, 4)
	is(t, q.Delete(object.Key(claim)), api.OK)
	refuses(t, q, "of one that goes", api.ErrRange, func() api.Errno { return q.Grow("c", 9) })
}

// P15.1: a pod is sent to a node once, and where its claim waits for that, with it.
func TestPlace(t *testing.T) {
	p := newPlane(t, class, api.Object{Kind: api.Class, Name: "w", Wait: true}, node, api.Object{Kind: api.Node, Name: "m", Zone: "b"},
		claim, api.Object{Kind: api.Claim, Name: "d", Class: "w", Size: 1}, api.Object{Kind: api.Claim, Name: "e", Class: "none", Size: 1},
		pod, api.Object{Kind: api.Pod, Name: "q", Claim: "d"}, api.Object{Kind: api.Pod, Name: "r", Claim: "d"},
		api.Object{Kind: api.Pod, Name: "s", Claim: "e"}, api.Object{Kind: api.Pod, Name: "lost", Claim: "x"})
	for _, x := range [][2]string{{"x", "n"}, {"p", "x"}, {"lost", "n"}, {"c", "n"}, {"p", "f"}, {"", ""}} {
		refuses(t, p, x[0]+" at "+x[1], api.ErrNone, func() api.Errno { return p.Place(x[0], x[1]) })
	}
	for _, x := range []struct{ pod, node, claim, at string }{
		{"p", "n", "c", ""},  // its class doesn't wait
		{"q", "n", "d", "n"}, // its class waits
		{"r", "m", "d", "n"}, // it knows already
		{"s", "n", "e", ""},  // its class is not there
	} {
		version := get(p, api.Pod, x.pod).Version
		is(t, p.Place(x.pod, x.node), api.OK)
		o, c := get(p, api.Pod, x.pod), get(p, api.Claim, x.claim)
		if o.Node != x.node || o.Version == version || c.Node != x.at || c.Phase != api.Pending {
			t.Errorf("%+v of %+v", o, c)
		}
	}
	for _, name := range []string{"n", "m"} {
		refuses(t, p, "p again", api.ErrBusy, func() api.Errno { return p.Place("p", name) })
	}
	refuses(t, p, "p again, nowhere", api.ErrNone, func() api.Errno { return p.Place("p", "x") })
}

// P15.1: a claim that has its volume waits for no node any more; nor does one for which it is being made.
func TestPlaceLate(t *testing.T) {
	p := elected(t, api.Object{Kind: api.Class, Name: "f", Wait: true, Zone: "a"}, node, claim, pod, api.Object{Kind: api.Pod, Name: "q", Claim: "c"},
		api.Object{Kind: api.Volume, Name: "v", Class: "f", Size: 7, Zone: "b"})
	round(t, p, 3)
	if c := get(p, api.Claim, "c"); c.Phase != api.Bound || c.Volume != "v" {
		t.Fatalf("%+v", c)
	}
	was := get(p, api.Claim, "c")
	is(t, p.Place("p", "n"), api.OK)
	objectIs(t, p, was)
}

// P15.1, E3: the claim is written ahead of its pod; without room for it neither is.
func TestPlaceFull(t *testing.T) {
	p := newPlane(t, api.Object{Kind: api.Class, Name: "f", Wait: true, Zone: "a"}, node, claim, pod)
	for p.Create(api.Object{Kind: api.Class, Name: "x"}) == api.OK && p.Delete(api.Key{Kind: api.Class, Name: "x"}) == api.OK {
	}
	refuses(t, p, "p", api.ErrFull, func() api.Errno { return p.Place("p", "n") })
	refuses(t, p, "a snapshot", api.ErrFull, func() api.Errno { return p.Create(snap) })
	refuses(t, p, "the end of one", api.ErrFull, func() api.Errno { return p.Delete(object.Key(pod)) })
}

// P15.1: a tag is written where a volume is published.
func TestPut(t *testing.T) {
	p := newPlane(t, class, node, claim, pod)
	is(t, p.Place("p", "n"), api.OK)
	round(t, p, 12)
	const name = "pvc/c#3"
	refuses(t, p, "no tag", api.ErrRange, func() api.Errno { return p.Put(name, "n", 0) })
	refuses(t, p, "no tag, of none", api.ErrRange, func() api.Errno { return p.Put("x", "n", 0) })
	refuses(t, p, "of none", api.ErrNone, func() api.Errno { return p.Put("x", "n", 1) })
	refuses(t, p, "elsewhere", api.ErrBusy, func() api.Errno { return p.Put(name, "m", 1) })
	for _, tag := range []uint64{1, 77, 1<<64 - 1} {
		is(t, p.Put(name, "n", tag), api.OK)
		if l := p.Volumes(); l[0].Tag != tag {
			t.Errorf("%+v; want %d", l, tag)
		}
	}
}
