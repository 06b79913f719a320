package watch_test

import (
	"fmt"
	"math"
	"math/rand"
	"reflect"
	"slices"
	"sort"
	"testing"

	"wharfinger/api"
	"wharfinger/object"
	"wharfinger/store"
	"wharfinger/watch"
)

func pod(name string) api.Object { return api.Object{Kind: api.Pod, Name: name, Claim: "c"} }

func class(name string) api.Object { return api.Object{Kind: api.Class, Name: name} }

// at is an object of a version.
func at(o api.Object, version uint64) api.Object {
	o.Version = version
	return o
}

func there(version uint64, o api.Object) api.Event {
	return api.Event{Version: version, Object: o}
}

func gone(version uint64, o api.Object) api.Event {
	return api.Event{Version: version, Gone: true, Object: o}
}

// keys are those of objects.
func keys(l ...api.Object) []api.Key {
	var k []api.Key
	for _, o := range l {
		k = append(k, object.Key(o))
	}
	return k
}

// is holds a cache to a version and to objects, which are told in their order.
func is(t *testing.T, c *watch.Cache, version uint64, want ...api.Object) {
	t.Helper()
	if c.Version() != version || !slices.Equal(c.All(), want) {
		t.Fatalf("%d, %+v; want %d, %+v", c.Version(), c.All(), version, want)
	}
	for _, o := range want {
		if x, ok := c.Get(object.Key(o)); x != o || !ok {
			t.Fatalf("Get(%v) = %+v, %v; want %+v", object.Key(o), x, ok, o)
		}
	}
}

func take(t *testing.T, c *watch.Cache, want []api.Key, l ...api.Event) {
	t.Helper()
	if k, e := c.Take(l); e != api.OK || !slices.Equal(k, want) {
		t.Fatalf("Take(%+v) = %v, %d; want %v", l, k, e, want)
	}
}

func reset(t *testing.T, c *watch.Cache, want []api.Key, version uint64, all ...api.Object) {
	t.Helper()
	if k, e := c.Reset(all, version); e != api.OK || !slices.Equal(k, want) {
		t.Fatalf("Reset(%+v, %d) = %v, %d; want %v", all, version, k, e, want)
	}
}

// refused tells that Take answers ErrConflict and changes nothing.
func refused(t *testing.T, c *watch.Cache, l ...api.Event) {
	t.Helper()
	version, all := c.Version(), c.All()
	if k, e := c.Take(l); len(k) != 0 || e != api.ErrConflict {
		t.Errorf("Take(%+v) = %v, %d; want ErrConflict", l, k, e)
	}
	is(t, c, version, all...)
}

// P7.2: a new one has nothing, and shares nothing with others.
func TestNew(t *testing.T) {
	c := watch.New()
	if c == nil {
		t.Fatal("nil")
	}
	is(t, c, 0)
	if o, ok := c.Get(api.Key{}); o != (api.Object{}) || ok {
		t.Errorf("Get = %+v, %v", o, ok)
	}
	take(t, watch.New(), keys(pod("p")), there(1, pod("p")))
	is(t, watch.New(), 0)
}

// P7.1
func TestTake(t *testing.T) {
	c := watch.New()
	take(t, c, keys(pod("q"), pod("p")), there(1, pod("q")), there(2, pod("p")), gone(3, pod("q")))
	is(t, c, 3, pod("p"))
	take(t, c, keys(class("p")), there(4, class("p"))) // of another kind: another key
	is(t, c, 4, class("p"), pod("p"))
	other := pod("p")
	other.Node, other.Version = "n", 5
	take(t, c, keys(pod("p")), there(5, other))
	is(t, c, 5, class("p"), other)
	take(t, c, keys(pod("p")), gone(6, pod("p"))) // gone is what is of its key, be it as it was told or not
	is(t, c, 6, class("p"))
	if o, ok := c.Get(object.Key(other)); o != (api.Object{}) || ok {
		t.Errorf("Get of one that is gone = %+v, %v", o, ok)
	}
	take(t, c, keys(pod("x")), gone(7, pod("x"))) // none was there
	is(t, c, 7, class("p"))
	take(t, c, keys(class("p"), pod("p")), gone(8, class("p")), there(9, pod("p")), there(10, class("p")), gone(11, pod("p")), there(12, pod("p")))
	is(t, c, 12, class("p"), pod("p"))
}

// P7.1: the keys come as their first changes do, not in their own order, nor in that of the last ones.
func TestTakeKeys(t *testing.T) {
	c := watch.New()
	take(t, c, keys(pod("b"), class("z"), pod("a"), class("a")),
		there(1, pod("b")), there(2, class("z")), there(3, pod("a")), there(4, pod("b")), gone(5, pod("b")), there(6, class("a")), there(7, class("z")), there(8, pod("b")))
	is(t, c, 8, class("a"), class("z"), pod("a"), pod("b"))
}

// P7.1: of no changes the version is none's, and nothing changes.
func TestTakeNone(t *testing.T) {
	c := watch.New()
	take(t, c, nil)
	is(t, c, 0)
	take(t, c, keys(pod("p")), there(1, pod("p")))
	for _, l := range [][]api.Event{nil, {}} {
		if k, e := c.Take(l); len(k) != 0 || e != api.OK {
			t.Errorf("Take of none = %v, %d", k, e)
		}
		is(t, c, 1, pod("p"))
	}
}

// P7.1, and the example of the chapter.
func TestTakeConflicts(t *testing.T) {
	p, q := pod("p"), pod("q")
	refused(t, watch.New(), there(2, p))
	c := watch.New()
	take(t, c, keys(p, class("a")), there(1, p), there(2, class("a")), there(3, p))
	for _, versions := range [][]uint64{
		{0}, {1}, {2}, {3}, {5}, {math.MaxUint64}, {1 << 32}, {4 + 1<<32},
		{3, 4}, {5, 4}, {5, 6}, {0, 1},
		{4, 4}, {4, 3}, {4, 6}, {4, 0}, {4, 5, 5}, {4, 5, 7}, {4, 5, 4}, {4, 5, 6, 8}, {4, 6, 5}, {4, 5, 6, math.MaxUint64},
	} {
		var l []api.Event
		for i, v := range versions {
			l = append(l, there(v, at(q, uint64(i))), there(v+1, at(p, 9)))
			l = l[:i+1]
		}
		refused(t, c, l...)
	}
	refused(t, c, gone(3, p))
	refused(t, c, gone(4, p), gone(6, class("a"))) // nor the first one is done
	take(t, c, keys(p, class("a")), gone(4, p), gone(5, class("a")))
	is(t, c, 5)
}

// P7.1: what counts is the change's version, not the one in the object.
func TestTakeVersions(t *testing.T) {
	c := watch.New()
	take(t, c, keys(pod("p"), pod("q")), there(1, at(pod("p"), 77)), there(2, at(pod("q"), 0)))
	is(t, c, 2, at(pod("p"), 77), pod("q"))
	refused(t, c, there(78, at(pod("p"), 3)))
}

// P7.1, P5: behind the greatest version comes 0.
func TestVersionsGoRound(t *testing.T) {
	p, q := pod("p"), pod("q")
	c := watch.New()
	reset(t, c, nil, math.MaxUint64-1)
	refused(t, c, there(0, p))
	refused(t, c, there(math.MaxUint64, p), there(1, p))
	refused(t, c, there(math.MaxUint64, p), there(math.MaxUint64, p))
	f := c.Fork()
	take(t, c, keys(p, q), there(math.MaxUint64, p), there(0, q), there(1, p))
	is(t, c, 1, p, q)
	reset(t, c, keys(p, q), math.MaxUint64)
	take(t, f, keys(p), there(math.MaxUint64, p))
	if k, e := f.Reset(nil, 0); len(k) != 0 || e != api.ErrConflict {
		t.Errorf("Reset = %v, %d", k, e)
	}
	refused(t, f, there(1, q))
	refused(t, f, there(math.MaxUint64, q))
	take(t, f, keys(q), there(0, q))
	is(t, f, 0, p, q)
	reset(t, f, keys(p), 0, q)
}

// P7.1
func TestReset(t *testing.T) {
	p, q := pod("p"), pod("q")
	c := watch.New()
	reset(t, c, keys(class("z"), p, q), 5, q, class("z"), p)
	is(t, c, 5, class("z"), p, q)
	reset(t, c, nil, 5, p, q, class("z")) // all just so, in another order
	is(t, c, 5, class("z"), p, q)
	reset(t, c, nil, 7, class("z"), p, q)
	is(t, c, 7, class("z"), p, q)
	reset(t, c, keys(class("a"), class("z"), q), 8, at(q, 8), p, class("a")) // new, gone, another
	is(t, c, 8, class("a"), p, at(q, 8))
	reset(t, c, keys(p), 9, class("a"), at(q, 8))
	is(t, c, 9, class("a"), at(q, 8))
	take(t, c, keys(p), there(10, p))
	is(t, c, 10, class("a"), p, at(q, 8))
	reset(t, c, keys(class("a"), p, q), 10)
	is(t, c, 10)
	reset(t, c, nil, 11)
	is(t, c, 11)
}

// P7.1: of one key the last one is there, and what was there is held against it alone.
func TestResetTwoOfAKey(t *testing.T) {
	p := pod("p")
	c := watch.New()
	reset(t, c, keys(p), 1, at(p, 1), at(p, 3), at(p, 2))
	is(t, c, 1, at(p, 2))
	reset(t, c, nil, 2, at(p, 9), at(p, 2))
	is(t, c, 2, at(p, 2))
	reset(t, c, keys(class("a"), p), 3, at(p, 2), class("a"), at(p, 9), class("a"))
	is(t, c, 3, class("a"), at(p, 9))
}

// P7.1: an object that differs in whatever else than its key is another one.
func TestResetOfEachField(t *testing.T) {
	was := pod("p")
	for i := range reflect.TypeFor[api.Object]().NumField() {
		other := was
		f := reflect.ValueOf(&other).Elem().Field(i)
		switch name := reflect.TypeFor[api.Object]().Field(i).Name; {
		case name == "Kind" || name == "Name":
			continue
		case f.Kind() == reflect.String:
			f.SetString("x")
		case f.Kind() == reflect.Bool:
			f.SetBool(true)
		case f.CanUint():
			f.SetUint(7)
		default:
			f.SetInt(7)
		}
		c := watch.New()
		reset(t, c, keys(was), 1, was)
		reset(t, c, keys(was), 2, other)
		is(t, c, 2, other)
	}
}

// P7.1: an object that is all zero is there, or it is not.
func TestZeroObject(t *testing.T) {
	zero := api.Object{}
	c := watch.New()
	reset(t, c, keys(zero), 0, zero)
	is(t, c, 0, zero)
	reset(t, c, nil, 0, zero)
	reset(t, c, keys(zero), 0)
	is(t, c, 0)
	take(t, c, keys(zero), there(1, zero))
	is(t, c, 1, zero)
	take(t, c, keys(zero), gone(2, zero))
	is(t, c, 2)
}

// P7.1
func TestResetConflicts(t *testing.T) {
	c := watch.New()
	reset(t, c, keys(pod("p")), 7, pod("p"))
	for _, version := range []uint64{0, 1, 6} {
		for _, all := range [][]api.Object{nil, {pod("p")}, {pod("q"), class("a")}} {
			if k, e := c.Reset(all, version); len(k) != 0 || e != api.ErrConflict {
				t.Errorf("Reset(%+v, %d) = %v, %d; want ErrConflict", all, version, k, e)
			}
			is(t, c, 7, pod("p"))
		}
	}
	reset(t, c, keys(pod("p"), pod("q")), math.MaxUint64, pod("q"))
	if _, e := c.Reset(nil, math.MaxUint64-1); e != api.ErrConflict {
		t.Errorf("%d", e)
	}
	is(t, c, math.MaxUint64, pod("q"))
}

// P7.1, P7.2: by kinds, then by the bytes of the names.
func TestOrder(t *testing.T) {
	want := []api.Object{
		{}, {Name: "z"}, class(""), class("#"), class("-"), class("10"), class("9"), class("A"), class("a"), class("a/b"), class("aa"), class("\xff"),
		{Kind: api.Node, Name: "a"}, {Kind: api.Claim}, {Kind: api.Volume, Name: "a"}, {Kind: api.Attach, Name: "v/n"}, pod("a"), {Kind: api.Snapshot}, {Kind: 8, Name: "a"}, {Kind: 255},
	}
	r := rand.New(rand.NewSource(7))
	for range 20 {
		l := slices.Clone(want)
		r.Shuffle(len(l), func(i, j int) { l[i], l[j] = l[j], l[i] })
		c := watch.New()
		reset(t, c, keys(want...), 1, l...)
		is(t, c, 1, want...)
		reset(t, c, keys(want...), 2)
		var changes []api.Event
		for i, o := range l {
			changes = append(changes, there(uint64(i+3), o))
		}
		take(t, c, keys(l...), changes...)
		is(t, c, uint64(len(l)+2), want...)
	}
}

// P7.2
func TestGet(t *testing.T) {
	c := watch.New()
	reset(t, c, keys(class("a"), pod("p")), 1, pod("p"), class("a"))
	for _, k := range []api.Key{{}, {Kind: api.Pod}, {Name: "p"}, {Kind: api.Class, Name: "p"}, {Kind: api.Pod, Name: "a"}, {Kind: 255, Name: "p"}, {Kind: api.Pod, Name: "p "}} {
		if o, ok := c.Get(k); o != (api.Object{}) || ok {
			t.Errorf("Get(%v) = %+v, %v", k, o, ok)
		}
	}
}

// P7.2, P4
func TestFork(t *testing.T) {
	p, q := pod("p"), pod("q")
	c := watch.New()
	empty := c.Fork()
	take(t, c, keys(p), there(1, p))
	is(t, empty, 0)
	f := c.Fork()
	is(t, f, 1, p)
	take(t, c, keys(q, p), there(2, q), gone(3, p))
	is(t, f, 1, p)
	take(t, f, keys(class("a"), p), there(2, class("a")), there(3, at(p, 3)), there(4, at(p, 4)))
	is(t, c, 3, q)
	is(t, f, 4, class("a"), at(p, 4))
	g := f.Fork()
	reset(t, f, keys(class("a"), p, q), 9, q)
	is(t, g, 4, class("a"), at(p, 4))
	reset(t, g, keys(class("a"), p), 8)
	is(t, f, 9, q)
	is(t, c, 3, q)
}

// P3: what is handed in stays, and is no part of the cache; nor is what is answered.
func TestMemory(t *testing.T) {
	p, q, x := pod("p"), pod("q"), pod("x")
	spare := []api.Event{there(1, q), there(2, p), gone(3, q), there(4, x), there(5, x)}
	changes := slices.Clone(spare)
	c := watch.New()
	k, _ := c.Take(changes[:3])
	if !slices.Equal(changes, spare) {
		t.Errorf("what was handed in is %+v", changes)
	}
	clear(changes)
	clear(k)
	_ = append(k[:0], keys(x, x, x)...)
	is(t, c, 3, p)
	all := []api.Object{q, p, q, x, x}
	before := slices.Clone(all)
	k, _ = c.Reset(all[:3], 4)
	if !slices.Equal(all, before) {
		t.Errorf("what was handed in is %+v", all)
	}
	clear(all)
	clear(k)
	is(t, c, 4, p, q)
	told := c.All()
	clear(told)
	_ = append(told[:0], x, x)
	is(t, c, 4, p, q)
	told = c.All()
	k, _ = c.Take([]api.Event{gone(5, p), there(6, at(q, 6))})
	c.Reset(nil, 7)
	if !slices.Equal(told, []api.Object{p, q}) || !slices.Equal(k, keys(p, q)) {
		t.Errorf("what was answered is another one: %+v, %v", told, k)
	}
}

// P1
func TestNil(t *testing.T) {
	var c *watch.Cache
	for _, l := range [][]api.Event{nil, {there(1, pod("p"))}, {there(7, pod("p"))}} {
		if k, e := c.Take(l); k != nil || e != api.ErrNil {
			t.Errorf("Take(%+v) = %v, %d", l, k, e)
		}
	}
	for _, all := range [][]api.Object{nil, {pod("p")}} {
		if k, e := c.Reset(all, 1); k != nil || e != api.ErrNil {
			t.Errorf("Reset(%+v) = %v, %d", all, k, e)
		}
	}
	if o, ok := c.Get(object.Key(pod("p"))); o != (api.Object{}) || ok {
		t.Errorf("Get = %+v, %v", o, ok)
	}
	if c.All() != nil || c.Version() != 0 || c.Fork() != nil {
		t.Error("a nil cache has something")
	}
}

// differ are the keys of which two lists of objects have not just the same, in order.
func differ(a, b []api.Object) []api.Key {
	var l []api.Object
	for _, o := range append(slices.Clone(a), b...) {
		if !(slices.Contains(a, o) && slices.Contains(b, o)) && !slices.Contains(keys(l...), object.Key(o)) {
			l = append(l, o)
		}
	}
	k := keys(l...)
	sort.Slice(k, func(i, j int) bool {
		return fmt.Sprintf("%03d%s", k[i].Kind, k[i].Name) < fmt.Sprintf("%03d%s", k[j].Kind, k[j].Name)
	})
	return k
}

// change changes something of a store, or tries.
func change(r *rand.Rand, s *store.Store) {
	name := string(rune('a' + r.Intn(5)))
	o := []api.Object{class(name), pod(name), {Kind: api.Claim, Name: name, Class: "f", Size: 1, Mode: api.Single, Phase: api.Pending, Hold: true}}[r.Intn(3)]
	if was, ok := s.Get(object.Key(o)); ok {
		o = was
	}
	switch r.Intn(4) {
	case 0:
		s.Delete(object.Key(o))
	case 1:
		s.Remove(object.Key(o), o.Version)
	default:
		s.Put(o)
	}
}

// P7.3, P7.4, E6: who takes each change, many at once, or all objects, has seen the same as is in the store.
func TestSeesWhatTheStoreIs(t *testing.T) {
	r := rand.New(rand.NewSource(73))
	for range 30 {
		s := store.New(2000)
		each, many, all, either := watch.New(), watch.New(), watch.New(), watch.New()
		for range 120 {
			change(r, s)
			sees(t, each, s, false)
			if r.Intn(5) == 0 {
				sees(t, many, s, false)
			}
			if r.Intn(5) == 0 {
				sees(t, all, s, true)
			}
			if r.Intn(5) == 0 {
				sees(t, either, s, r.Intn(2) == 0)
			}
		}
	}
}

// sees lets a cache see all of a store.
func sees(t *testing.T, c *watch.Cache, s *store.Store, anew bool) {
	t.Helper()
	if anew {
		reset(t, c, differ(c.All(), s.All()), s.Version(), s.All()...)
	} else {
		l := s.Since(c.Version())
		var want []api.Key
		for _, x := range l {
			if k := object.Key(x.Object); !slices.Contains(want, k) {
				want = append(want, k)
			}
		}
		take(t, c, want, l...)
	}
	is(t, c, s.Version(), s.All()...)
}
