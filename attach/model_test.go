package attach_test

import (
	"maps"
	"math/rand"
	"slices"
	"strings"
	"testing"

	"wharfinger/api"
	"wharfinger/attach"
	"wharfinger/object"
)

// books are what is there, as the chapter tells it: by its key, and in the order of keys.
type books struct {
	by   map[api.Key]api.Object
	keys []api.Key
}

func booksOf(all []api.Object) books {
	b := books{by: map[api.Key]api.Object{}}
	for i := len(all) - 1; i >= 0; i-- { // the first one of a key is laid last
		b.by[object.Key(all[i])] = all[i]
	}
	b.keys = slices.SortedFunc(maps.Keys(b.by), func(x, y api.Key) int {
		if object.Less(x, y) {
			return -1
		}
		return 1
	})
	return b
}

func (b books) wanted(volume string) map[string]int {
	nodes := map[string]int{}
	if b.by[api.Key{Kind: api.Volume, Name: volume}].Phase != api.Bound {
		return nodes
	}
	for k, p := range b.by {
		c, ok := b.by[api.Key{Kind: api.Claim, Name: p.Claim}]
		if k.Kind == api.Pod && p.Node != "" && !p.Deleting && ok && c.Phase == api.Bound && c.Volume == volume {
			nodes[p.Node]++
		}
	}
	return nodes
}

func (b books) attachments(volume string) []api.Object {
	var l []api.Object
	for _, k := range b.keys {
		if k.Kind == api.Attach && b.by[k].Volume == volume {
			l = append(l, b.by[k])
		}
	}
	return l
}

func (b books) volume(next uint64, name string) api.Act {
	v, ok := b.by[api.Key{Kind: api.Volume, Name: name}]
	if !ok {
		return nothing
	}
	wanted, there := b.wanted(name), b.attachments(name)
	for _, a := range there {
		call := api.Call{Target: name, Num: a.Num, Node: a.Node}
		if a.Phase == api.Detaching {
			call.Verb = api.Unpublish
			return ask(call)
		}
		if wanted[a.Node] == 0 {
			a.Num = next
			a.Phase = api.Detaching
			return write(a)
		}
		if a.Phase == api.Attaching {
			call.Verb = api.Publish
			return ask(call)
		}
	}
	for _, a := range there {
		delete(wanted, a.Node)
	}
	if len(wanted) == 0 {
		return nothing
	}
	node := slices.Min(slices.Collect(maps.Keys(wanted)))
	if len(there) != 0 && v.Mode == api.Single || !object.Name(name+"/"+node) {
		return nothing
	}
	return write(api.Object{Kind: api.Attach, Name: name + "/" + node, Volume: name, Node: node, Phase: api.Attaching, Num: next})
}

func (b books) after(next uint64, c api.Call, r api.Result) api.Act {
	if a := b.volume(next, c.Target); a.Do != api.Ask || a.Call != c {
		return nothing
	}
	there := b.attachments(c.Target)
	a := there[slices.IndexFunc(there, func(a api.Object) bool { return a.Node == c.Node && a.Num == c.Num })]
	if r.Err == api.ErrStale {
		return write(num(a, next))
	}
	if c.Verb == api.Unpublish {
		if r.Err == api.OK {
			return remove(a)
		}
		return nothing
	}
	switch r.Err {
	case api.OK:
		return write(num(phase(a, api.Attached), 0))
	case api.ErrNone:
		return write(num(phase(a, api.Detaching), next))
	}
	return nothing
}

// dice are numbers from anywhere.
type dice func(n int) int

func pick[T any](d dice, of ...T) T { return of[d(len(of))] }

var longName = strings.Repeat("v", 38)

// object is one of few names; nearly all are right.
func (d dice) object() api.Object {
	o := api.Object{Name: pick(d, "a", "b", "c", "d"), Version: uint64(d(9)), Born: uint64(d(3)), Deleting: d(4) == 0, Hold: d(2) == 0}
	switch o.Kind = pick(d, api.Claim, api.Claim, api.Volume, api.Pod, api.Pod, api.Pod, api.Attach, api.Attach, api.Node); o.Kind {
	case api.Claim:
		o.Class, o.Size, o.Mode, o.Phase = "f", 1, api.Single, pick(d, api.Pending, api.Creating, api.Bound, api.Bound, api.Bound, api.Bound)
		if o.Phase == api.Bound {
			o.Volume = pick(d, "a", "a", "b", longName)
		}
	case api.Volume:
		o.Name, o.Class, o.Size, o.Got, o.Mode = pick(d, "a", "a", "b", longName), "f", 1, 1, pick(d, api.Single, api.Many, api.Many)
		o.Zone, o.Claim, o.Phase = "z", "a#1", pick(d, api.Bound, api.Bound, api.Bound, api.Bound, api.Bound, api.Released, api.Erasing)
	case api.Attach:
		o.Volume, o.Node, o.Num = pick(d, "a", "a", "b", longName), pick(d, "k", "l", "m"), uint64(d(3))
		o.Phase, o.Name = pick(d, api.Attaching, api.Attached, api.Attached, api.Attached, api.Detaching), object.AttachName(o.Volume, o.Node)
	case api.Pod:
		o.Claim, o.Node = pick(d, "a", "b", "c"), pick(d, "", "k", "l", "m", "mm")
	case api.Node:
		o.Zone = "z"
	}
	return o
}

func (d dice) result() api.Result {
	if d(2) == 0 {
		return api.Result{Size: int64(d(5)), Tag: uint64(d(3))}
	}
	return failed(pick(d, append(allErrors, api.ErrStale, api.ErrStale, api.ErrNone, api.ErrNone)...))
}

// agree holds the package to its model, of all that may be asked of some objects, and what it Writes to being right, where they are.
func agree(t *testing.T, d dice, all []api.Object, version uint64) {
	t.Helper()
	b, right, was := booksOf(all), true, slices.Clone(all)
	for _, o := range all {
		right = right && object.Right(o)
	}
	check := func(what string, got, want api.Act) {
		t.Helper()
		if got != want {
			t.Fatalf("%s of %+v: %+v; want %+v", what, all, got, want)
		}
		if right && got.Do == api.Write && !object.Right(got.Object) {
			t.Fatalf("%s of %+v: %+v is not right", what, all, got)
		}
	}
	for _, name := range []string{"a", "b", longName, ""} {
		nodes := slices.Sorted(maps.Keys(b.wanted(name)))
		if got := attach.Wanted(all, name); !slices.Equal(got, nodes) {
			t.Fatalf("Wanted of %q of %+v: %q; want %q", name, all, got, nodes)
		}
		if got, want := attach.Attachments(all, name), b.attachments(name); !slices.Equal(got, want) {
			t.Fatalf("Attachments of %q of %+v: %+v; want %+v", name, all, got, want)
		}
		act, r := b.volume(version+1, name), d.result()
		check("Volume", attach.Volume(all, version, name), act)
		check("After", attach.After(all, version, act.Call, r), b.after(version+1, act.Call, r))
		act.Call.Num ^= uint64(d(2))
		act.Call.Target = name
		check("After", attach.After(all, version, act.Call, r), b.after(version+1, act.Call, r))
	}
	if !slices.Equal(all, was) {
		t.Fatalf("%+v became %+v", was, all)
	}
}

// P13.1 to P13.3: whatever is there.
func TestAnyObjects(t *testing.T) {
	r := rand.New(rand.NewSource(13))
	for range 20000 {
		var all []api.Object
		for range r.Intn(14) {
			all = append(all, dice(r.Intn).object())
		}
		agree(t, r.Intn, all, uint64(r.Intn(20)))
	}
}

// P13.1 to P13.3, P1: objects that are not right, too.
func FuzzObjects(f *testing.F) {
	f.Add(uint64(9), []byte("a volume, a claim, a pod, an attachment: whatever these bytes may come to, there is an answer"))
	f.Add(uint64(1<<64-1), []byte{2, 0, 0, 0, 1, 2, 3, 2, 1, 0, 0, 0, 3, 3, 0, 1, 0, 0, 0, 1, 1, 2, 3, 4, 1, 2, 3, 4, 9, 9, 9, 9})
	f.Fuzz(func(t *testing.T, version uint64, ops []byte) {
		i := 0
		d := dice(func(n int) int {
			if i++; i > len(ops) {
				return 0
			}
			return int(ops[i-1]) % n
		})
		var all []api.Object
		for range min(len(ops)/12, 40) {
			o := d.object()
			switch d(12) {
			case 0:
				o.Phase = api.Phase(d(256))
			case 1:
				o.Kind = api.Kind(d(256))
			case 2:
				o.Claim, o.Node, o.Volume = "", "", ""
			case 3:
				o.Name, o.Node = "", "\xff"
			case 4:
				o.Name, o.Mode = pick(d, "x", "y"), api.Mode(d(256))
			}
			all = append(all, o)
		}
		agree(t, d, all, version)
	})
}
