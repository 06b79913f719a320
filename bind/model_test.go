package bind_test

import (
	"maps"
	"math/rand"
	"slices"
	"strconv"
	"strings"
	"testing"

	"wharfinger/api"
	"wharfinger/bind"
	"wharfinger/object"
)

// books are what is there, as the chapter tells it: by its key, and in the order of keys.
type books struct {
	by   map[api.Key]api.Object
	keys []api.Key
}

func booksOf(all []api.Object) books {
	b := books{by: map[api.Key]api.Object{}}
	for i := len(all) - 1; i >= 0; i-- { // the first one of a key is laid last
		b.by[object.Key(all[i])] = all[i]
	}
	b.keys = slices.SortedFunc(maps.Keys(b.by), func(x, y api.Key) int {
		if object.Less(x, y) {
			return -1
		}
		return 1
	})
	return b
}

func (b books) get(kind api.Kind, name string) (api.Object, bool) {
	o, ok := b.by[api.Key{Kind: kind, Name: name}]
	return o, ok
}

// count tells how many of a kind are so.
func (b books) count(kind api.Kind, is func(o api.Object) bool) int {
	n := 0
	for _, o := range b.by {
		if o.Kind == kind && is(o) {
			n++
		}
	}
	return n
}

func refOf(o api.Object) (ref, handle string) {
	ref = o.Name + "#" + strconv.FormatUint(o.Born, 10)
	if len(ref) > 36 {
		return "", ""
	}
	return ref, "pvc/" + ref
}

func (b books) best(c api.Object) (api.Object, bool) {
	var l []api.Object
	node, atNode := b.get(api.Node, c.Node)
	for _, k := range b.keys {
		v := b.by[k]
		if k.Kind == api.Volume && v.Phase == api.Available && !v.Deleting && v.Class == c.Class && v.Mode == c.Mode && v.Got >= c.Size {
			if c.Node != "" && atNode && v.Zone != node.Zone {
				continue
			}
			l = append(l, v)
		}
	}
	slices.SortStableFunc(l, func(x, y api.Object) int {
		if x.Got < y.Got {
			return -1
		} else if x.Got > y.Got {
			return 1
		}
		return 0
	})
	if len(l) == 0 {
		return api.Object{}, false
	}
	return l[0], true
}

func (b books) claim(next uint64, name string) api.Act {
	c, ok := b.get(api.Claim, name)
	ref, handle := refOf(c)
	if !ok || handle == "" {
		return nothing
	}
	if c.Phase == api.Bound {
		pods := b.count(api.Pod, func(o api.Object) bool { return o.Claim == name })
		nodes := b.count(api.Attach, func(o api.Object) bool { return o.Volume == c.Volume })
		if c.Deleting && pods+nodes == 0 {
			return remove(c)
		}
		return nothing
	}
	for _, k := range b.keys {
		if v := b.by[k]; k.Kind == api.Volume && v.Claim == ref {
			c.Phase, c.Volume, c.Got, c.Zone, c.Num = api.Bound, v.Name, v.Got, v.Zone, 0
			return write(c)
		}
	}
	if c.Deleting {
		if c.Num == 0 {
			return remove(c)
		}
		if c.Phase != api.Creating {
			return ask(api.Call{Verb: api.Erase, Target: handle, Num: c.Num})
		}
		c.Phase, c.Num = api.Pending, next
		return write(c)
	}
	snap, hasSnap := b.get(api.Snapshot, c.Source)
	if c.Phase == api.Creating {
		x := api.Call{Verb: api.Create, Target: handle, Num: c.Num, Size: c.Size, Zone: c.Zone}
		if c.Source != "" && !hasSnap {
			return nothing
		}
		if c.Source != "" {
			x.Source = strings.Join([]string{"snap/", snap.Name, "#", strconv.FormatUint(snap.Born, 10)}, "")
		}
		return ask(x)
	}
	if c.Phase != api.Pending {
		return nothing
	}
	if v, ok := b.best(c); ok {
		v.Phase, v.Claim = api.Bound, ref
		return write(v)
	}
	return b.begin(c, next, snap, hasSnap)
}

func (b books) begin(c api.Object, next uint64, snap api.Object, hasSnap bool) api.Act {
	class, ok := b.get(api.Class, c.Class)
	node, placed := b.get(api.Node, c.Node)
	placed = placed && c.Node != ""
	if !ok || class.Wait && !placed {
		return nothing
	}
	c.Zone = class.Zone
	if placed {
		c.Zone = node.Zone
	}
	if c.Zone == "" {
		return nothing
	}
	if c.Source != "" && (!hasSnap || snap.Phase != api.Ready || snap.Deleting || snap.Got > c.Size) {
		return nothing
	}
	c.Phase, c.Num = api.Creating, next
	return write(c)
}

func (b books) volume(next uint64, name string) api.Act {
	v, ok := b.get(api.Volume, name)
	if !ok {
		return nothing
	}
	up := func() api.Act {
		v.Phase, v.Num = api.Erasing, next
		return write(v)
	}
	switch v.Phase {
	case api.Available:
		if v.Deleting && !v.Keep {
			return up()
		}
	case api.Bound:
		if b.count(api.Claim, func(o api.Object) bool { ref, _ := refOf(o); return ref == v.Claim }) > 0 {
			return nothing
		}
		if !v.Keep {
			return up()
		}
		v.Phase = api.Released
		return write(v)
	case api.Erasing:
		n := b.count(api.Attach, func(o api.Object) bool { return o.Volume == name })
		n += b.count(api.Snapshot, func(o api.Object) bool { return o.Volume == name && o.Phase == api.Cutting })
		if n == 0 {
			return ask(api.Call{Verb: api.Erase, Target: name, Num: v.Num})
		}
	}
	return nothing
}

func (b books) next(next uint64, k api.Key) api.Act {
	switch k.Kind {
	case api.Claim:
		return b.claim(next, k.Name)
	case api.Volume:
		return b.volume(next, k.Name)
	}
	return nothing
}

func (b books) after(next uint64, k api.Key, c api.Call, r api.Result) api.Act {
	if a := b.next(next, k); a.Do != api.Ask || a.Call != c {
		return nothing
	}
	o := b.by[k]
	class, ok := b.get(api.Class, o.Class)
	switch {
	case r.Err == api.ErrLost:
		return nothing
	case r.Err == api.ErrStale:
		return write(num(o, next))
	case r.Err == api.OK && c.Verb == api.Erase:
		return remove(o)
	case c.Verb == api.Erase:
		return nothing
	case r.Err == api.OK:
		ref, handle := refOf(o)
		v := api.Object{Kind: api.Volume, Name: handle, Class: o.Class, Size: o.Size, Got: r.Size, Mode: o.Mode, Zone: r.Zone, Claim: ref, Phase: api.Bound}
		v.Keep = ok && class.Keep
		return write(object.Default(v))
	}
	o.Phase, o.Zone, o.Num = api.Pending, "", next
	if ok && class.Wait {
		o.Node = ""
	}
	return write(o)
}

// dice are numbers from anywhere.
type dice func(n int) int

func pick[T any](d dice, of ...T) T { return of[d(len(of))] }

// object is one of few names; nearly all are right.
func (d dice) object() api.Object {
	o := api.Object{Name: pick(d, "a", "b", "c", strings.Repeat("n", 35), "pvc/a#1"), Version: uint64(d(9)), Born: uint64(d(3)), Deleting: d(3) == 0, Hold: d(2) == 0}
	switch o.Kind = api.Kind(1 + d(7)); o.Kind {
	case api.Class:
		o.Zone, o.Wait, o.Keep = pick(d, "", "y", "z"), d(2) == 0, d(2) == 0
	case api.Node:
		o.Name, o.Zone = pick(d, "a", "b"), pick(d, "y", "z")
	case api.Claim:
		o.Class, o.Size, o.Mode, o.Phase = pick(d, "a", "b"), int64(1+d(4)), pick(d, api.Single, api.Many), pick(d, api.Pending, api.Pending, api.Creating, api.Creating, api.Bound)
		o.Zone, o.Node, o.Source, o.Num = pick(d, "", "y", "z"), pick(d, "", "a", "b"), pick(d, "", "", "a", "b"), uint64(d(3))
		if o.Phase == api.Bound {
			o.Volume = pick(d, "a", "b", "pvc/a#1")
		}
	case api.Volume:
		o.Class, o.Size, o.Got, o.Mode = pick(d, "a", "b"), int64(1+d(4)), int64(1+d(4)), pick(d, api.Single, api.Single, api.Many)
		o.Zone, o.Keep, o.Num, o.Phase = pick(d, "y", "z"), d(3) == 0, uint64(d(3)), pick(d, api.Available, api.Available, api.Bound, api.Released, api.Erasing)
		o.Claim = pick(d, "a", "b", "c") + "#" + strconv.Itoa(d(4))
		if o.Phase == api.Available && d(3) > 0 {
			o.Claim = ""
		}
	case api.Attach:
		o.Volume, o.Node, o.Phase = pick(d, "a", "b", "pvc/a#1"), pick(d, "a", "b"), pick(d, api.Attaching, api.Detaching)
		o.Name = object.AttachName(o.Volume, o.Node)
	case api.Pod:
		o.Claim, o.Node = pick(d, "a", "b", "c"), pick(d, "", "a")
	case api.Snapshot:
		o.Source, o.Volume, o.Got, o.Phase = "a", pick(d, "", "a", "b"), int64(d(6)), pick(d, api.Pending, api.Cutting, api.Ready, api.Ready, api.Erasing)
	}
	return o
}

func (d dice) result() api.Result {
	if d(2) == 0 {
		return api.Result{Size: int64(1 + d(5)), Zone: pick(d, "y", "z"), Tag: uint64(d(3))}
	}
	return failed(pick(d, append(allErrors, api.ErrStale, api.ErrLost, api.ErrBusy)...))
}

// agree holds the package to its model, of all that may be asked of some objects, and what it Writes to being right, where they are.
func agree(t *testing.T, d dice, all []api.Object, version uint64) {
	t.Helper()
	b, right, was := booksOf(all), true, slices.Clone(all)
	for _, o := range all {
		right = right && object.Right(o)
	}
	check := func(what string, got, want api.Act) {
		t.Helper()
		if got != want {
			t.Fatalf("%s of %+v: %+v; want %+v", what, all, got, want)
		}
		if right && got.Do == api.Write && !object.Right(got.Object) {
			t.Fatalf("%s of %+v: %+v is not right", what, all, got)
		}
	}
	for _, o := range all {
		got, ok := bind.Best(all, o)
		if want, is := b.best(o); got != want || ok != is {
			t.Fatalf("Best of %+v, %+v: %+v; want %+v", all, o, got, want)
		}
		check("Claim", bind.Claim(all, version, o.Name), b.claim(version+1, o.Name))
		check("Volume", bind.Volume(all, version, o.Name), b.volume(version+1, o.Name))
		k := object.Key(o)
		c, r := b.next(version+1, k).Call, d.result()
		check("After", bind.After(all, version, k, c, r), b.after(version+1, k, c, r))
		c.Num ^= uint64(d(2))
		check("After", bind.After(all, version, k, c, r), b.after(version+1, k, c, r))
	}
	if !slices.Equal(all, was) {
		t.Fatalf("%+v became %+v", was, all)
	}
}

// P12.1 to P12.5: whatever is there.
func TestAnyObjects(t *testing.T) {
	r := rand.New(rand.NewSource(12))
	for range 20000 {
		var all []api.Object
		for range r.Intn(14) {
			all = append(all, dice(r.Intn).object())
		}
		agree(t, r.Intn, all, uint64(r.Intn(20)))
	}
}

// P12.1 to P12.4, P1: objects that are not right, too.
func FuzzObjects(f *testing.F) {
	f.Add(uint64(9), []byte("a class, a claim, a node, a pod: whatever these bytes may come to, there is an answer"))
	f.Add(uint64(1<<64-1), []byte{2, 0, 0, 0, 1, 2, 3, 2, 1, 0, 0, 0, 3, 3, 0, 1, 0, 0, 0, 1, 1, 2, 3, 4, 1, 2, 3, 4, 9, 9, 9, 9})
	f.Fuzz(func(t *testing.T, version uint64, ops []byte) {
		i := 0
		d := dice(func(n int) int {
			if i++; i > len(ops) {
				return 0
			}
			return int(ops[i-1]) % n
		})
		var all []api.Object
		for range min(len(ops)/12, 40) {
			o := d.object()
			switch d(12) {
			case 0:
				o.Phase = api.Phase(d(256))
			case 1:
				o.Kind = api.Kind(d(256))
			case 2:
				o.Claim, o.Node, o.Source, o.Class = "", "", "", ""
			case 3:
				o.Name, o.Zone = "", "\xff"
			case 4:
				o.Size, o.Got = -int64(d(256)), -1<<63
			}
			all = append(all, o)
		}
		agree(t, d, all, version)
	})
}
