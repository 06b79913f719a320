package data_test

import (
	"math"
	"slices"
	"strings"
	"testing"

	"wharfinger/api"
	"wharfinger/data"
	"wharfinger/object"
)

// The objects of most tests: a claim that has its volume, and a snapshot of it.
func aClaim() api.Object {
	return api.Object{Kind: api.Claim, Name: "c", Version: 5, Born: 3, Hold: true, Class: "f", Size: 10, Got: 10, Mode: api.Single, Zone: "a", Volume: "v", Phase: api.Bound}
}

func aVolume() api.Object {
	return api.Object{Kind: api.Volume, Name: "v", Version: 6, Born: 4, Hold: true, Class: "f", Size: 10, Got: 10, Mode: api.Single, Zone: "a", Claim: "c#3", Phase: api.Bound}
}

func aSnap() api.Object {
	return api.Object{Kind: api.Snapshot, Name: "s", Version: 8, Born: 7, Hold: true, Source: "c", Phase: api.Pending}
}

// aCutting is a snapshot that is being made; aReady one that is; anErasing one that goes.
func aCutting() api.Object {
	return with(aSnap(), func(o *api.Object) { o.Phase, o.Volume, o.Num = api.Cutting, "v", 9 })
}

func aReady() api.Object {
	return with(aSnap(), func(o *api.Object) { o.Phase, o.Volume, o.Got, o.Tag = api.Ready, "v", 10, 77 })
}

func anErasing() api.Object {
	return num(phase(deleting(aReady()), api.Erasing), 9)
}

// aCreating is a claim whose volume is being made of the snapshot s.
func aCreating() api.Object {
	return api.Object{Kind: api.Claim, Name: "d", Version: 9, Born: 9, Hold: true, Class: "f", Size: 10, Mode: api.Single, Zone: "a", Source: "s", Phase: api.Creating, Num: 9}
}

// with is an object but for what is said.
func with(o api.Object, change func(o *api.Object)) api.Object {
	change(&o)
	return o
}

func phase(o api.Object, p api.Phase) api.Object {
	o.Phase = p
	return o
}

func deleting(o api.Object) api.Object {
	o.Deleting = true
	return o
}

func num(o api.Object, n uint64) api.Object {
	o.Num = n
	return o
}

func got(o api.Object, n int64) api.Object {
	o.Got = n
	return o
}

func size(o api.Object, n int64) api.Object {
	o.Size = n
	return o
}

func write(o api.Object) api.Act  { return api.Act{Do: api.Write, Object: o} }
func remove(o api.Object) api.Act { return api.Act{Do: api.Remove, Object: o} }
func ask(c api.Call) api.Act      { return api.Act{Do: api.Ask, Call: c} }

func expand(to int64, n uint64) api.Call {
	return api.Call{Verb: api.Expand, Target: "v", Num: n, Size: to}
}

var (
	cutS  = api.Call{Verb: api.Cut, Target: "snap/s#7", Num: 9, Source: "v"}
	dropS = api.Call{Verb: api.Drop, Target: "snap/s#7", Num: 9}
)

var nothing = api.Act{}

func list(l ...api.Object) []api.Object { return l }

// tells holds a call to what it is to tell of objects in any order, with what is of one key behind the first one, and to leaving them as they are.
func tells(t *testing.T, what string, want api.Act, all []api.Object, answer func(all []api.Object) api.Act) {
	t.Helper()
	backward := slices.Clone(all)
	slices.Reverse(backward)
	var doubled []api.Object
	for _, o := range all {
		doubled = append(doubled, o,
			api.Object{Kind: o.Kind, Name: o.Name, Deleting: true, Volume: "v", Source: "s", Phase: api.Creating, Born: o.Born},
			api.Object{Kind: o.Kind, Name: o.Name, Size: 99, Got: 98, Volume: "v", Phase: api.Bound, Born: o.Born})
	}
	for _, l := range [][]api.Object{all, backward, doubled} {
		roomy := append(slices.Clone(l), api.Object{Name: "behind"})
		if got := answer(roomy[:len(l)]); got != want {
			t.Errorf("%s: %+v; want %+v", what, got, want)
		}
		if !slices.Equal(roomy[:len(l)], l) || roomy[len(l)].Name != "behind" {
			t.Errorf("%s: what was handed in changes", what)
		}
	}
}

// claims and snaps hold the next act, at version 19, of the claim c, and of the snapshot s.
func claims(t *testing.T, what string, want api.Act, all ...api.Object) {
	t.Helper()
	tells(t, what, want, all, func(all []api.Object) api.Act { return data.Claim(all, 19, "c") })
}

func snaps(t *testing.T, what string, want api.Act, all ...api.Object) {
	t.Helper()
	tells(t, what, want, all, func(all []api.Object) api.Act { return data.Snapshot(all, 19, "s") })
}

// P14.1: at the edge of what may be a name, too.
func TestHandle(t *testing.T) {
	for _, c := range []struct {
		name   string
		born   uint64
		handle string
	}{
		{"s", 7, "snap/s#7"},
		{"s", 0, "snap/s#0"},
		{"a/b.c#d-1", 10, "snap/a/b.c#d-1#10"},
		{"s", math.MaxUint64, "snap/s#18446744073709551615"},
		{strings.Repeat("n", 33), 9, "snap/" + strings.Repeat("n", 33) + "#9"},
		{strings.Repeat("n", 33), 10, ""},
		{strings.Repeat("n", 34), 9, ""},
		{strings.Repeat("n", 40), 0, ""},
		{strings.Repeat("n", 14), math.MaxUint64, "snap/" + strings.Repeat("n", 14) + "#18446744073709551615"},
		{strings.Repeat("n", 15), math.MaxUint64, ""},
		{strings.Repeat("n", 5000), 1, ""},
		{"", 7, "snap/#7"},
		{"\xff", 7, "snap/\xff#7"},
	} {
		s := with(aReady(), func(o *api.Object) { o.Name, o.Born, o.Version = c.name, c.born, 77 })
		if h := data.Handle(s); h != c.handle {
			t.Errorf("of %q, born %d: %q; want %q", c.name, c.born, h, c.handle)
		}
		if c.handle != "" && object.Name(c.name) && !object.Name(c.handle) {
			t.Errorf("%q is no name", c.handle)
		}
	}
}

// P14.2: only of a claim and a volume that belong together.
func TestClaimBound(t *testing.T) {
	wants := size(aClaim(), 20)
	grows := write(num(size(aVolume(), 20), 20))
	claims(t, "both are Bound", grows, wants, aVolume())
	claims(t, "of nothing", nothing)
	claims(t, "it has no volume", nothing, wants)
	claims(t, "it is not there", nothing, aVolume())
	for kind := range 9 {
		if api.Kind(kind) != api.Claim {
			claims(t, "something else of its name", nothing, with(wants, func(o *api.Object) { o.Kind = api.Kind(kind) }), aVolume())
		}
		if api.Kind(kind) != api.Volume {
			claims(t, "something else of its volume's name", nothing, wants, with(aVolume(), func(o *api.Object) { o.Kind = api.Kind(kind) }))
		}
	}
	for _, p := range []api.Phase{api.NoPhase, api.Pending, api.Creating, api.Available, api.Released, api.Erasing, api.Ready} {
		claims(t, "it is not Bound", nothing, phase(wants, p), aVolume())
		claims(t, "its volume is not", nothing, wants, phase(aVolume(), p))
	}
	claims(t, "of another name", nothing, with(wants, func(o *api.Object) { o.Name = "cc" }), aVolume())
	claims(t, "of another volume", nothing, with(wants, func(o *api.Object) { o.Volume = "w" }), aVolume())
	claims(t, "another claim's is not asked", grows, wants, aVolume(), with(aCreating(), func(o *api.Object) { o.Volume, o.Phase = "v", api.Bound }))
	claims(t, "it is Deleting", write(deleting(num(size(aVolume(), 20), 20))), deleting(wants), deleting(aVolume()))
	other := with(aVolume(), func(o *api.Object) { o.Claim = "x#1" })
	claims(t, "whose the volume says it is, is not asked", write(num(size(other, 20), 20)), wants, other)
}

// P14.2: what there is, is enough.
func TestClaimGot(t *testing.T) {
	claims(t, "as it is", nothing, aClaim(), aVolume())
	claims(t, "of more than it asks", nothing, got(aClaim(), 12), got(aVolume(), 12))
	claims(t, "it is not told of what there is", write(got(aClaim(), 12)), aClaim(), got(aVolume(), 12))
	claims(t, "it is told of more", write(got(aClaim(), 10)), got(aClaim(), 12), aVolume())
	claims(t, "it is told of nothing", write(aClaim()), got(aClaim(), 0), aVolume())
	claims(t, "neither Size nor Num of the volume is asked", nothing, aClaim(), num(size(aVolume(), 30), 9))
	claims(t, "neither Size nor Num of the volume is asked", write(got(aClaim(), 11)), aClaim(), got(num(size(aVolume(), 3), 9), 11))
	claims(t, "just enough", write(got(size(aClaim(), 11), 11)), size(aClaim(), 11), got(aVolume(), 11))
}

// P14.2: it is not: the volume grows.
func TestClaimGrows(t *testing.T) {
	wants := size(aClaim(), 20)
	claims(t, "the volume is told", write(num(size(aVolume(), 20), 20)), wants, aVolume())
	claims(t, "by one", write(num(size(aVolume(), 11), 20)), size(aClaim(), 11), aVolume())
	claims(t, "what was asked goes on from there", write(num(size(aVolume(), 20), 20)), wants, num(size(aVolume(), 19), 9))
	claims(t, "Size is there, no number", write(num(size(aVolume(), 20), 20)), wants, size(aVolume(), 20))
	claims(t, "more is there, no number", write(num(size(aVolume(), 25), 20)), wants, size(aVolume(), 25))
	claims(t, "it is asked", ask(expand(20, 9)), wants, num(size(aVolume(), 20), 9))
	claims(t, "more is asked", ask(expand(25, 9)), wants, num(size(aVolume(), 25), 9))
	claims(t, "nearly there", ask(expand(20, 9)), wants, got(num(size(aVolume(), 20), 9), 19))
	claims(t, "its own Got is not asked", ask(expand(20, 9)), got(wants, 20), num(size(aVolume(), 20), 9))
	claims(t, "more was there at first", write(num(size(got(aVolume(), 15), 20), 20)), wants, got(aVolume(), 15))
	all := list(wants, size(aVolume(), 20))
	if a := data.Claim(all, math.MaxUint64, "c"); a != write(size(aVolume(), 20)) {
		t.Errorf("behind the last number comes 0: %+v", a)
	}
	if a := data.Claim(list(wants, aVolume(), num(size(aVolume(), 20), 9)), 19, "c"); a != write(num(size(aVolume(), 20), 20)) {
		t.Errorf("of one key the first one counts: %+v", a)
	}
}

// P14.3: of one that is not there, or can't be named at the driver, nothing.
func TestSnapshotThere(t *testing.T) {
	snaps(t, "of nothing", nothing)
	snaps(t, "of others", nothing, aClaim(), aVolume(), with(anErasing(), func(o *api.Object) { o.Name = "ss" }))
	for kind := range 9 {
		if api.Kind(kind) != api.Snapshot {
			snaps(t, "of another kind", nothing, with(anErasing(), func(o *api.Object) { o.Kind = api.Kind(kind) }))
		}
	}
	for length, handled := range map[int]bool{33: true, 34: false, 40: false} {
		name := strings.Repeat("n", length)
		for _, o := range list(aSnap(), deleting(aSnap()), aCutting(), anErasing(), phase(aReady(), api.Erasing)) {
			o.Name = name
			if a := data.Snapshot(list(o, aClaim(), aVolume()), 19, name); (a != nothing) != handled {
				t.Errorf("%s: %+v", name, a)
			}
		}
	}
	if a := data.Snapshot(list(aReady(), anErasing()), 19, "s"); a != nothing {
		t.Errorf("of one key the first one counts: %+v", a)
	}
}

// P14.3: one that is given up goes, when no volume is being made of it.
func TestSnapshotDeleting(t *testing.T) {
	for _, o := range list(aSnap(), aCutting(), aReady(), num(aReady(), 4), phase(aSnap(), api.NoPhase)) {
		o = deleting(o)
		want := write(num(phase(o, api.Erasing), 20))
		snaps(t, "not yet Erasing", want, o)
		snaps(t, "whatever its Source", want, o, aClaim(), aVolume())
		snaps(t, "a volume is made of it", nothing, o, aClaim(), aCreating())
	}
	snaps(t, "Erasing", ask(dropS), anErasing())
	snaps(t, "Erasing, Num 0", ask(api.Call{Verb: api.Drop, Target: "snap/s#7"}), num(anErasing(), 0))
	snaps(t, "Erasing, a volume is made of it", nothing, anErasing(), aCreating())
	snaps(t, "by a claim that is Deleting", nothing, anErasing(), deleting(aCreating()))
	snaps(t, "by one of some", nothing, anErasing(), aClaim(), with(aCreating(), func(o *api.Object) { o.Name, o.Source = "b", "t" }), aCreating())
	for what, change := range map[string]func(o *api.Object){
		"Pending":       func(o *api.Object) { o.Phase = api.Pending },
		"Bound":         func(o *api.Object) { o.Phase, o.Volume = api.Bound, "w" },
		"no phase":      func(o *api.Object) { o.Phase = api.NoPhase },
		"of another":    func(o *api.Object) { o.Source = "t" },
		"of its Handle": func(o *api.Object) { o.Source = "snap/s#7" },
		"of none":       func(o *api.Object) { o.Source = "" },
		"no claim":      func(o *api.Object) { o.Kind = api.Volume },
		"of its name":   func(o *api.Object) { o.Name, o.Source = "s", "" },
	} {
		snaps(t, what, ask(dropS), anErasing(), with(aCreating(), change))
		snaps(t, what, write(num(phase(deleting(aReady()), api.Erasing), 20)), deleting(aReady()), with(aCreating(), change))
	}
}

// P14.3: one that is Erasing all the same asks nobody.
func TestSnapshotErasing(t *testing.T) {
	o := with(anErasing(), func(o *api.Object) { o.Deleting = false })
	snaps(t, "Erasing", ask(dropS), o)
	snaps(t, "Erasing, a volume is made of it", ask(dropS), o, aCreating())
	snaps(t, "Erasing, Num 0", ask(api.Call{Verb: api.Drop, Target: "snap/s#7"}), num(o, 0))
}

// P14.3: one that waits is cut of what its claim has.
func TestSnapshotPending(t *testing.T) {
	cut := write(num(with(aSnap(), func(o *api.Object) { o.Phase, o.Volume = api.Cutting, "v" }), 20))
	snaps(t, "its claim has a volume", cut, aSnap(), aClaim(), aVolume())
	snaps(t, "a claim that is Deleting", cut, aSnap(), deleting(aClaim()), deleting(aVolume()))
	snaps(t, "a volume is made of it", cut, aSnap(), aClaim(), aVolume(), aCreating())
	was := with(aSnap(), func(o *api.Object) { o.Volume, o.Num, o.Got, o.Tag = "w", 9, 4, 5 })
	snaps(t, "it was Cutting once", write(num(with(was, func(o *api.Object) { o.Phase, o.Volume = api.Cutting, "v" }), 20)), was, aClaim(), aVolume())
	snaps(t, "its claim is not there", nothing, aSnap(), aVolume())
	snaps(t, "its volume is not", nothing, aSnap(), aClaim())
	snaps(t, "another claim is", nothing, aSnap(), with(aClaim(), func(o *api.Object) { o.Name = "cc" }), aVolume())
	snaps(t, "another volume is", nothing, aSnap(), aClaim(), with(aVolume(), func(o *api.Object) { o.Name = "w" }))
	snaps(t, "its Source is a volume", nothing, with(aSnap(), func(o *api.Object) { o.Source = "v" }), aClaim(), aVolume())
	snaps(t, "its Source is no claim", nothing, aSnap(), with(aClaim(), func(o *api.Object) { o.Kind = api.Snapshot }), aVolume())
	for _, p := range []api.Phase{api.NoPhase, api.Pending, api.Creating, api.Available, api.Released, api.Erasing, api.Ready} {
		snaps(t, "its claim is not Bound", nothing, aSnap(), phase(aClaim(), p), aVolume())
		snaps(t, "its volume is not Bound", nothing, aSnap(), aClaim(), phase(aVolume(), p))
	}
	if a := data.Snapshot(list(aSnap(), aClaim(), aVolume()), math.MaxUint64, "s"); a != write(with(aSnap(), func(o *api.Object) { o.Phase, o.Volume = api.Cutting, "v" })) {
		t.Errorf("behind the last number comes 0: %+v", a)
	}
}

// P14.3: one that is being cut asks for it, whatever became of its claim; one that is Ready has come to rest.
func TestSnapshotCutting(t *testing.T) {
	snaps(t, "Cutting", ask(cutS), aCutting(), aClaim(), aVolume())
	snaps(t, "all else is gone", ask(cutS), aCutting())
	snaps(t, "its volume goes", ask(cutS), aCutting(), phase(aVolume(), api.Erasing))
	w := cutS
	w.Source, w.Num = "w", math.MaxUint64
	snaps(t, "of its Volume, with its Num", ask(w), with(aCutting(), func(o *api.Object) { o.Volume, o.Num = "w", math.MaxUint64 }), aClaim(), aVolume())
	snaps(t, "Ready", nothing, aReady(), aClaim(), aVolume())
	snaps(t, "Ready, all else is gone", nothing, num(aReady(), 5))
	for _, p := range []api.Phase{api.NoPhase, api.Creating, api.Bound, api.Attached, 255} {
		snaps(t, "of no phase of a snapshot", nothing, phase(aCutting(), p), aClaim(), aVolume())
	}
}
