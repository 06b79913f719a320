package data_test

import (
	"math/rand"
	"slices"
	"strconv"
	"strings"
	"testing"

	"wharfinger/api"
	"wharfinger/data"
	"wharfinger/object"
)

// books are what is there, as the chapter tells it: by its key.
type books map[api.Key]api.Object

func booksOf(all []api.Object) books {
	b := books{}
	for i := len(all) - 1; i >= 0; i-- { // the first one of a key is laid last
		b[object.Key(all[i])] = all[i]
	}
	return b
}

func handleOf(s api.Object) string {
	if h := "snap/" + s.Name + "#" + strconv.FormatUint(s.Born, 10); len(h) <= 40 {
		return h
	}
	return ""
}

// pair are a claim and its volume; false: they are not both there, and Bound.
func (b books) pair(claim string) (c, v api.Object, ok bool) {
	if c = b[api.Key{Kind: api.Claim, Name: claim}]; c.Phase == api.Bound {
		v = b[api.Key{Kind: api.Volume, Name: c.Volume}]
	}
	return c, v, v.Phase == api.Bound
}

func (b books) claim(next uint64, name string) api.Act {
	c, v, ok := b.pair(name)
	switch {
	case !ok, v.Got >= c.Size && c.Got == v.Got:
		return nothing
	case v.Got >= c.Size:
		return write(got(c, v.Got))
	case v.Size < c.Size:
		return write(size(num(v, next), c.Size))
	case v.Num == 0:
		return write(num(v, next))
	}
	return ask(api.Call{Verb: api.Expand, Target: c.Volume, Size: v.Size, Num: v.Num})
}

func (b books) snapshot(next uint64, name string) api.Act {
	s, ok := b[api.Key{Kind: api.Snapshot, Name: name}]
	handle := handleOf(s)
	if !ok || handle == "" {
		return nothing
	}
	if s.Deleting {
		for k, c := range b {
			if k.Kind == api.Claim && c.Phase == api.Creating && c.Source == name {
				return nothing
			}
		}
		if s.Phase != api.Erasing {
			return write(num(phase(s, api.Erasing), next))
		}
	}
	switch s.Phase {
	case api.Erasing:
		return ask(api.Call{Verb: api.Drop, Target: handle, Num: s.Num})
	case api.Cutting:
		return ask(api.Call{Verb: api.Cut, Target: handle, Num: s.Num, Source: s.Volume})
	case api.Pending:
		if _, v, ok := b.pair(s.Source); ok {
			s.Volume = v.Name
			return write(num(phase(s, api.Cutting), next))
		}
	}
	return nothing
}

func (b books) next(next uint64, k api.Key) api.Act {
	switch k.Kind {
	case api.Claim:
		return b.claim(next, k.Name)
	case api.Snapshot:
		return b.snapshot(next, k.Name)
	}
	return nothing
}

func (b books) after(next uint64, k api.Key, c api.Call, r api.Result) api.Act {
	if a := b.next(next, k); a.Do != api.Ask || a.Call != c {
		return nothing
	}
	o := b[k]
	if c.Verb == api.Expand {
		o = b[api.Key{Kind: api.Volume, Name: c.Target}]
	}
	if r.Err == api.ErrStale {
		return write(num(o, next))
	}
	switch c.Verb {
	case api.Expand:
		if r.Err == api.OK {
			return write(got(num(o, 0), r.Size))
		}
	case api.Cut:
		if r.Err == api.OK {
			o.Tag = r.Tag
			return write(got(num(phase(o, api.Ready), 0), r.Size))
		}
		if r.Err == api.ErrNone {
			o.Volume = ""
			return write(phase(o, api.Pending))
		}
	case api.Drop:
		if r.Err == api.OK {
			return remove(o)
		}
	}
	return nothing
}

// dice are numbers from anywhere.
type dice func(n int) int

func pick[T any](d dice, of ...T) T { return of[d(len(of))] }

// object is one of few names; nearly all are right.
func (d dice) object() api.Object {
	o := api.Object{Name: pick(d, "a", "a", "b", "c", strings.Repeat("n", 34)), Version: uint64(d(9)), Born: uint64(d(3)), Deleting: d(3) == 0, Hold: d(2) == 0}
	switch o.Kind = pick(d, api.Claim, api.Claim, api.Volume, api.Volume, api.Snapshot, api.Snapshot, api.Attach); o.Kind {
	case api.Claim:
		o.Class, o.Size, o.Got, o.Mode = "f", int64(1+d(4)), int64(d(6)), api.Single
		o.Phase, o.Source, o.Num = pick(d, api.Pending, api.Creating, api.Bound, api.Bound, api.Bound), pick(d, "", "a", "b"), uint64(d(3))
		if o.Phase == api.Bound {
			o.Volume = pick(d, "a", "a", "b")
		}
	case api.Volume:
		o.Class, o.Size, o.Got, o.Mode = "f", int64(1+d(5)), int64(1+d(5)), api.Single
		o.Zone, o.Claim, o.Num, o.Phase = "z", "a#1", uint64(d(3)), pick(d, api.Available, api.Bound, api.Bound, api.Bound, api.Released, api.Erasing)
	case api.Attach:
		o.Volume, o.Node, o.Phase = "a", o.Name, api.Attached
		o.Name = object.AttachName(o.Volume, o.Node)
	case api.Snapshot:
		o.Source, o.Volume, o.Got, o.Phase = pick(d, "a", "a", "b"), pick(d, "", "a", "b"), int64(d(6)), pick(d, api.Pending, api.Pending, api.Cutting, api.Ready, api.Erasing)
		o.Num, o.Tag = uint64(d(3)), uint64(d(3))
	}
	return o
}

// result is what a driver may answer to a call.
func (d dice) result(c api.Call) api.Result {
	if d(2) == 0 {
		return api.Result{Size: c.Size + int64(d(5)), Zone: pick(d, "y", "z"), Tag: uint64(d(3))}
	}
	return failed(pick(d, append(allErrors, api.ErrStale, api.ErrStale, api.ErrNone, api.ErrNone)...))
}

// agree holds the package to its model, of all that may be asked of some objects; and what it Writes to being right, where they are, and to no size that falls.
func agree(t *testing.T, d dice, all []api.Object, version uint64) {
	t.Helper()
	b, right, was := booksOf(all), true, slices.Clone(all)
	for _, o := range all {
		right = right && object.Right(o)
	}
	check := func(what string, act, want api.Act) {
		t.Helper()
		if act != want {
			t.Fatalf("%s of %+v: %+v; want %+v", what, all, act, want)
		}
		o := act.Object
		if right && act.Do == api.Write && !object.Right(o) {
			t.Fatalf("%s of %+v: %+v is not right", what, all, act)
		}
		if v := b[object.Key(o)]; right && act.Do == api.Write && o.Kind == api.Volume && (o.Size < v.Size || o.Got < v.Got) {
			t.Fatalf("%s of %+v: %+v falls", what, all, act)
		}
	}
	for _, o := range all {
		if h := data.Handle(o); h != handleOf(o) {
			t.Fatalf("Handle(%+v): %q; want %q", o, h, handleOf(o))
		}
		check("Claim", data.Claim(all, version, o.Name), b.claim(version+1, o.Name))
		check("Snapshot", data.Snapshot(all, version, o.Name), b.snapshot(version+1, o.Name))
		k := object.Key(o)
		c := b.next(version+1, k).Call
		r := d.result(c)
		check("After", data.After(all, version, k, c, r), b.after(version+1, k, c, r))
		c.Num ^= uint64(d(2))
		check("After", data.After(all, version, k, c, r), b.after(version+1, k, c, r))
	}
	if !slices.Equal(all, was) {
		t.Fatalf("%+v became %+v", was, all)
	}
}

// P14.1 to P14.5: whatever is there.
func TestAnyObjects(t *testing.T) {
	r := rand.New(rand.NewSource(14))
	for range 20000 {
		var all []api.Object
		for range r.Intn(14) {
			all = append(all, dice(r.Intn).object())
		}
		agree(t, r.Intn, all, uint64(r.Intn(20)))
	}
}

// P14.1 to P14.5, P1: objects that are not right, too.
func FuzzObjects(f *testing.F) {
	f.Add(uint64(9), []byte("a claim, a volume, a snapshot: whatever these bytes may come to, there is an answer"))
	f.Add(uint64(1<<64-1), []byte{2, 0, 0, 0, 1, 2, 3, 2, 1, 0, 0, 0, 3, 3, 0, 1, 0, 0, 0, 1, 1, 2, 3, 4, 1, 2, 3, 4, 9, 9, 9, 9})
	f.Fuzz(func(t *testing.T, version uint64, ops []byte) {
		i := 0
		d := dice(func(n int) int {
			if i++; i > len(ops) {
				return 0
			}
			return int(ops[i-1]) % n
		})
		var all []api.Object
		for range min(len(ops)/12, 40) {
			o := d.object()
			switch d(12) {
			case 0:
				o.Phase = api.Phase(d(256))
			case 1:
				o.Kind = api.Kind(d(256))
			case 2:
				o.Claim, o.Volume, o.Source = "", "", ""
			case 3:
				o.Name, o.Source = "", "\xff"
			case 4:
				o.Size, o.Got = -int64(d(256)), -1<<63
			}
			all = append(all, o)
		}
		agree(t, d, all, version)
	})
}
