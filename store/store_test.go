package store_test

import (
	"bytes"
	"fmt"
	"maps"
	"math"
	"math/rand"
	"slices"
	"strings"
	"testing"

	"wharfinger/api"
	"wharfinger/blocks"
	"wharfinger/codec"
	"wharfinger/object"
	"wharfinger/store"
)

var longest = strings.Repeat("n", api.MaxName)

func class(name string) api.Object { return api.Object{Kind: api.Class, Name: name} }

func node(name string) api.Object { return api.Object{Kind: api.Node, Name: name, Zone: "a"} }

func claim(name string) api.Object {
	return object.Default(api.Object{Kind: api.Claim, Name: name, Class: "f", Size: 10})
}

// biggest is an object whose record needs more blocks than others.
func biggest(version uint64) api.Object {
	return api.Object{Kind: api.Claim, Name: longest, Version: version, Born: math.MaxUint64, Hold: true, Class: longest, Size: api.MaxSize, Got: api.MaxSize,
		Mode: api.Many, Zone: longest, Node: longest, Volume: longest, Source: longest, Phase: api.Bound, Num: math.MaxUint64}
}

// wrong are objects that are not right.
var wrong = []api.Object{
	{},
	{Kind: api.Class},
	{Name: "a"},
	{Kind: 8, Name: "a"},
	{Kind: api.Class, Name: "A"},
	{Kind: api.Class, Name: longest + "n"},
	{Kind: api.Class, Name: "a", Size: 1},
	{Kind: api.Node, Name: "n"},
	{Kind: api.Claim, Name: "c", Class: "f", Size: 10},
	{Kind: api.Claim, Name: "c", Class: "f", Size: -1, Mode: api.Single, Phase: api.Pending},
	{Kind: api.Pod, Name: "p"},
	{Kind: api.Class, Name: "A", Version: 77},
}

// state is all that a store tells.
type state struct {
	all     []api.Object
	version uint64
	changes []api.Event
	bytes   []byte
}

func of(s *store.Store) state {
	return state{s.All(), s.Version(), s.Since(0), s.Log().Bytes()}
}

func same(a, b state) bool {
	return slices.Equal(a.all, b.all) && a.version == b.version && slices.Equal(a.changes, b.changes) && bytes.Equal(a.bytes, b.bytes)
}

// is holds a store against what it was, and holds it to what it tells.
func is(t *testing.T, s *store.Store, want state) {
	t.Helper()
	if got := of(s); !same(got, want) {
		t.Fatalf("%+v; want %+v", got, want)
	}
	sound(t, s)
}

// sound tells that a store's answers go together, and that all of it is in its log.
func sound(t *testing.T, s *store.Store) {
	t.Helper()
	objects := map[api.Key]api.Object{}
	var log []byte
	for i, e := range s.Since(0) {
		if e.Version != uint64(i+1) {
			t.Fatalf("change %d has version %d", i, e.Version)
		}
		if e.Gone {
			if objects[object.Key(e.Object)] != e.Object {
				t.Fatalf("gone is %+v", e.Object)
			}
			delete(objects, object.Key(e.Object))
		} else {
			objects[object.Key(e.Object)] = e.Object
		}
		record, _ := codec.Change(e)
		l := blocks.New(api.MaxBlocks)
		for range i {
			l.Append([]byte{0})
		}
		l.Append(record)
		log = append(log, l.Bytes()[i*api.BlockSize:]...)
	}
	all := slices.SortedFunc(maps.Values(objects), func(a, b api.Object) int {
		return strings.Compare(fmt.Sprintf("%03d%s", a.Kind, a.Name), fmt.Sprintf("%03d%s", b.Kind, b.Name))
	})
	if !slices.Equal(s.All(), all) || s.Version() != uint64(len(s.Since(0))) || !bytes.Equal(s.Log().Bytes(), log) {
		t.Fatalf("%+v: want %+v, % x", of(s), all, log)
	}
	for k, o := range objects {
		if x, ok := s.Get(k); x != o || !ok {
			t.Fatalf("Get(%v) = %+v, %v; want %+v", k, x, ok, o)
		}
	}
	log2 := s.Log()
	log2.Crash(0, 0)
	if o := store.Open(log2); o == nil || !same(of(o), of(s)) {
		t.Fatal("Open of what lasts of the log is not the store")
	}
}

func made(t *testing.T, n int) *store.Store {
	t.Helper()
	s := store.New(n)
	if s == nil {
		t.Fatalf("New(%d) is nil", n)
	}
	return s
}

func put(t *testing.T, s *store.Store, o api.Object) api.Object {
	t.Helper()
	x, e := s.Put(o)
	if e != api.OK {
		t.Fatalf("Put(%+v): %d", o, e)
	}
	return x
}

// refused tells that a Put answers an error and changes nothing.
func refused(t *testing.T, s *store.Store, o api.Object, want api.Errno) {
	t.Helper()
	before := of(s)
	if x, e := s.Put(o); x != (api.Object{}) || e != want {
		t.Errorf("Put(%+v) = %+v, %d; want %d", o, x, e, want)
	}
	is(t, s, before)
}

func ok(t *testing.T, e api.Errno) {
	t.Helper()
	if e != api.OK {
		t.Fatalf("error %d", e)
	}
}

// P6.1
func TestNew(t *testing.T) {
	for _, n := range []int{math.MinInt, -1, 0, api.MaxBlocks + 1, math.MaxInt} {
		if store.New(n) != nil {
			t.Errorf("New(%d) is not nil", n)
		}
	}
	for _, n := range []int{1, api.MaxBlocks} {
		s := made(t, n)
		is(t, s, state{})
		if s.Log().Free() != n {
			t.Errorf("New(%d): %d blocks", n, s.Log().Free())
		}
	}
}

// P6.1, P6.6, and the example of the chapter.
func TestPut(t *testing.T) {
	s := made(t, 50)
	c := claim("c")
	want := c
	want.Version, want.Born = 1, 1
	if x, e := s.Put(c); x != want || e != api.OK {
		t.Errorf("Put = %+v, %d; want %+v", x, e, want)
	}
	refused(t, s, c, api.ErrConflict)
	put(t, s, class("f"))
	c = want
	c.Size, c.Hold, c.Phase, c.Num, c.Node = 20, false, api.Creating, 9, "n"
	want = c
	want.Version = 3
	if x, e := s.Put(c); x != want || e != api.OK {
		t.Errorf("Put = %+v, %d; want %+v", x, e, want)
	}
	if x, ok := s.Get(api.Key{Kind: api.Claim, Name: "c"}); x != want || !ok {
		t.Errorf("Get = %+v, %v; want %+v", x, ok, want)
	}
	if e := s.Since(2); len(e) != 1 || e[0] != (api.Event{Version: 3, Object: want}) {
		t.Errorf("Since = %+v", e)
	}
	sound(t, s)
}

// P6.1: Born and Deleting are those of what was there, whatever is Put.
func TestPutKeepsBornAndDeleting(t *testing.T) {
	s := made(t, 50)
	put(t, s, class("f"))
	o := claim("c")
	o.Born, o.Deleting = 77, true
	x := put(t, s, o)
	if x.Version != 2 || x.Born != 2 || x.Deleting {
		t.Errorf("%+v", x)
	}
	x.Born, x.Deleting = 1, true
	x = put(t, s, x)
	if x.Version != 3 || x.Born != 2 || x.Deleting {
		t.Errorf("%+v", x)
	}
	ok(t, s.Delete(object.Key(x)))
	x, _ = s.Get(object.Key(x))
	x.Born, x.Deleting = 0, false
	x = put(t, s, x)
	if x.Version != 5 || x.Born != 2 || !x.Deleting {
		t.Errorf("%+v", x)
	}
	ok(t, s.Remove(object.Key(x), 5))
	x.Version = 0
	x = put(t, s, x)
	if x.Version != 7 || x.Born != 7 || x.Deleting {
		t.Errorf("%+v", x)
	}
	sound(t, s)
}

// P6.1
func TestPutErrors(t *testing.T) {
	s := made(t, 50)
	for _, o := range wrong {
		refused(t, s, o, api.ErrForm)
	}
	for _, version := range []uint64{1, 2, math.MaxUint64} {
		o := class("a")
		o.Version = version
		refused(t, s, o, api.ErrConflict)
	}
	put(t, s, class("a"))
	a := put(t, s, put(t, s, class("b")))
	for _, version := range []uint64{0, 1, 2, 4, math.MaxUint64} {
		a.Version = version
		refused(t, s, a, api.ErrConflict)
	}
	a.Version, a.Name = 1, "A"
	refused(t, s, a, api.ErrForm)
	other := node("b") // of another kind there is none
	other.Version = 3
	refused(t, s, other, api.ErrConflict)
	other.Version = 0
	put(t, s, other)
	ok(t, s.Delete(object.Key(other)))
	other.Version = 4
	refused(t, s, other, api.ErrConflict)
}

// P6.1
func TestPutOfTooMany(t *testing.T) {
	s := made(t, 600)
	for i := range api.MaxObjects {
		put(t, s, class(fmt.Sprint("c", i)))
	}
	refused(t, s, class("x"), api.ErrFull)
	x := class("x")
	x.Version = 1
	refused(t, s, x, api.ErrConflict)
	refused(t, s, class("X"), api.ErrForm)
	refused(t, s, class("c7"), api.ErrConflict)
	c, _ := s.Get(api.Key{Kind: api.Class, Name: "c7"})
	c = put(t, s, c)
	ok(t, s.Remove(object.Key(c), c.Version))
	put(t, s, class("x"))
	refused(t, s, class("y"), api.ErrFull)
	sound(t, s)
}

// P6.1, P6.2: where the log has no room, nothing changes.
func TestFullLog(t *testing.T) {
	s := made(t, 4)
	held := put(t, s, claim("c"))
	free := put(t, s, class("a"))
	ok(t, s.Delete(object.Key(held)))
	held, _ = s.Get(object.Key(held))
	refused(t, s, biggest(0), api.ErrFull)
	put(t, s, class("b"))
	full := of(s)
	refused(t, s, class("d"), api.ErrFull)
	refused(t, s, held, api.ErrFull)
	refused(t, s, claim("c"), api.ErrConflict)
	refused(t, s, class("A"), api.ErrForm)
	for _, c := range []struct {
		what      string
		got, want api.Errno
	}{
		{"Delete of one without Hold", s.Delete(object.Key(free)), api.ErrFull},
		{"Delete of one that is Deleting", s.Delete(object.Key(held)), api.OK},
		{"Delete of none", s.Delete(api.Key{Kind: api.Class, Name: "x"}), api.ErrNone},
		{"Remove", s.Remove(object.Key(held), held.Version), api.ErrFull},
		{"Remove of another version", s.Remove(object.Key(held), 1), api.ErrConflict},
		{"Remove of none", s.Remove(api.Key{}, 0), api.ErrNone},
		{"Crash", s.Crash(class("d"), 9, 0), api.OK},
	} {
		if c.got != c.want {
			t.Errorf("%s: %d; want %d", c.what, c.got, c.want)
		}
		is(t, s, full)
	}
	s = made(t, 1)
	held = put(t, s, claim("c"))
	full = of(s)
	if e := s.Delete(object.Key(held)); e != api.ErrFull {
		t.Errorf("Delete of one with Hold: %d", e)
	}
	is(t, s, full)
}

// P6.1: an object with all that it may have.
func TestBiggest(t *testing.T) {
	s := made(t, 30)
	x := put(t, s, put(t, s, biggest(0)))
	want := biggest(2)
	want.Born = 1
	if x != want {
		t.Errorf("%+v", x)
	}
	sound(t, s)
}

// P6.2, P6.6
func TestDelete(t *testing.T) {
	s := made(t, 50)
	none := api.Key{Kind: api.Claim, Name: "a"}
	if e := s.Delete(none); e != api.ErrNone {
		t.Errorf("Delete of none: %d", e)
	}
	a := put(t, s, class("a"))
	c := put(t, s, claim("c"))
	for _, k := range []api.Key{none, {}, {Kind: api.Class}, {Kind: api.Class, Name: "A"}, {Kind: 200, Name: "a"}} {
		before := of(s)
		if e := s.Delete(k); e != api.ErrNone {
			t.Errorf("Delete(%v): %d", k, e)
		}
		is(t, s, before)
	}
	ok(t, s.Delete(object.Key(a)))
	if _, ok := s.Get(object.Key(a)); ok || s.Version() != 3 || s.Since(2)[0] != (api.Event{Version: 3, Gone: true, Object: a}) {
		t.Errorf("Delete of one without Hold: %+v", of(s))
	}
	if e := s.Delete(object.Key(a)); e != api.ErrNone {
		t.Errorf("Delete of one that was taken away: %d", e)
	}
	ok(t, s.Delete(object.Key(c)))
	c.Version, c.Deleting = 4, true
	if x, ok := s.Get(object.Key(c)); x != c || !ok || s.Since(3)[0] != (api.Event{Version: 4, Object: c}) {
		t.Errorf("Delete of one with Hold: %+v", of(s))
	}
	before := of(s)
	ok(t, s.Delete(object.Key(c)))
	is(t, s, before)
	c.Hold = false
	c = put(t, s, c)
	ok(t, s.Delete(object.Key(c)))
	if len(s.All()) != 0 || s.Since(5)[0] != (api.Event{Version: 6, Gone: true, Object: c}) || !c.Deleting {
		t.Errorf("Delete of one that is Deleting, without Hold: %+v", of(s))
	}
	sound(t, s)
}

// P6.2, P6.6
func TestRemove(t *testing.T) {
	s := made(t, 50)
	put(t, s, class("a"))
	c := put(t, s, claim("c"))
	for _, k := range []api.Key{{}, {Kind: api.Claim, Name: "a"}, {Kind: api.Class, Name: "c"}, {Kind: 200, Name: "c"}} {
		before := of(s)
		if e := s.Remove(k, 2); e != api.ErrNone {
			t.Errorf("Remove(%v): %d", k, e)
		}
		is(t, s, before)
	}
	for _, version := range []uint64{0, 1, 3, math.MaxUint64} {
		before := of(s)
		if e := s.Remove(object.Key(c), version); e != api.ErrConflict {
			t.Errorf("Remove of version %d: %d", version, e)
		}
		is(t, s, before)
	}
	ok(t, s.Remove(object.Key(c), 2)) // Hold holds nothing here
	if s.Version() != 3 || s.Since(2)[0] != (api.Event{Version: 3, Gone: true, Object: c}) || len(s.All()) != 1 {
		t.Errorf("Remove: %+v", of(s))
	}
	if e := s.Remove(object.Key(c), 2); e != api.ErrNone {
		t.Errorf("Remove of one that was taken away: %d", e)
	}
	sound(t, s)
}

// P6.3
func TestLists(t *testing.T) {
	s := made(t, 50)
	var want []api.Object
	for _, o := range []api.Object{
		{Kind: api.Snapshot, Name: "b", Source: "c", Phase: api.Pending}, class("b"), class("a/b"), {Kind: api.Pod, Name: "b", Claim: "c"}, class("10"), node("b"),
		class("9"), claim("z"), class("a"), {Kind: api.Attach, Name: "v/n", Volume: "v", Node: "n", Phase: api.Attached}, class("a-"), claim("a"), class("aa"), class("#"),
		{Kind: api.Volume, Name: "v", Class: "f", Size: 1, Got: 1, Mode: api.Single, Zone: "a", Phase: api.Available},
	} {
		want = append(want, put(t, s, o))
	}
	at := func(l ...int) []api.Object {
		var some []api.Object
		for _, i := range l {
			some = append(some, want[i])
		}
		return some
	}
	if l := s.All(); !slices.Equal(l, at(13, 4, 6, 8, 10, 2, 12, 1, 5, 11, 7, 14, 9, 3, 0)) {
		t.Errorf("All: %+v", l)
	}
	for kind, want := range map[api.Kind][]api.Object{
		api.NoKind: nil, api.Class: at(13, 4, 6, 8, 10, 2, 12, 1), api.Node: at(5), api.Claim: at(11, 7), api.Volume: at(14),
		api.Attach: at(9), api.Pod: at(3), api.Snapshot: at(0), 8: nil, 255: nil,
	} {
		if l := s.List(kind); !slices.Equal(l, want) {
			t.Errorf("List(%d): %+v", kind, l)
		}
	}
	for _, k := range []api.Key{{}, {Kind: api.Node, Name: "a"}, {Kind: api.Class, Name: ""}, {Kind: 255, Name: "a"}} {
		if o, ok := s.Get(k); o != (api.Object{}) || ok {
			t.Errorf("Get(%v) = %+v, %v", k, o, ok)
		}
	}
	sound(t, s)
}

// P6.3
func TestSince(t *testing.T) {
	s := made(t, 50)
	if s.Version() != 0 || s.Since(0) != nil {
		t.Errorf("%d, %+v", s.Version(), s.Since(0))
	}
	a := put(t, s, class("a"))
	b := put(t, s, a)
	c := put(t, s, claim("c"))
	ok(t, s.Remove(object.Key(b), 2))
	ok(t, s.Delete(object.Key(c)))
	d := c
	d.Version, d.Deleting = 5, true
	want := []api.Event{{Version: 1, Object: a}, {Version: 2, Object: b}, {Version: 3, Object: c}, {Version: 4, Gone: true, Object: b}, {Version: 5, Object: d}}
	for v := range want {
		if l := s.Since(uint64(v)); !slices.Equal(l, want[v:]) {
			t.Errorf("Since(%d): %+v", v, l)
		}
	}
	for _, v := range []uint64{5, 6, 1 << 32, 1 << 63, math.MaxUint64} {
		if l := s.Since(v); len(l) != 0 {
			t.Errorf("Since(%d): %+v", v, l)
		}
	}
}

// history is a store with changes of all sorts.
func history(t *testing.T, n int) *store.Store {
	t.Helper()
	s := made(t, n)
	put(t, s, put(t, s, class("a")))
	c := put(t, s, claim("c"))
	put(t, s, biggest(0))
	ok(t, s.Delete(object.Key(c)))
	ok(t, s.Delete(api.Key{Kind: api.Class, Name: "a"}))
	put(t, s, class("a"))
	ok(t, s.Remove(object.Key(c), 5))
	put(t, s, node("n"))
	return s
}

// P6.3, P6.4
func TestOpen(t *testing.T) {
	if store.Open(nil) != nil {
		t.Error("Open of nil is not nil")
	}
	is(t, store.Open(blocks.New(3)), state{})
	s := history(t, 30)
	l := s.Log()
	before := l.Bytes()
	o := store.Open(l)
	is(t, o, of(s))
	put(t, o, class("b"))
	ok(t, o.Delete(api.Key{Kind: api.Class, Name: "b"}))
	if !bytes.Equal(l.Bytes(), before) {
		t.Error("the log that was handed in is another one")
	}
	ok(t, l.Append([]byte("x")))
	sound(t, o)
}

// P6.3: what is behind the whole records goes, but from the log that was handed in.
func TestOpenCleans(t *testing.T) {
	s := history(t, 40)
	l := s.Log()
	ok(t, l.Append(bytes.Repeat([]byte("x"), 100)))
	ok(t, l.Crash(1, 30))
	before := l.Bytes()
	o := store.Open(l)
	if o == nil {
		t.Fatal("nil")
	}
	is(t, o, of(s))
	if !bytes.Equal(l.Bytes(), before) || len(before) == len(s.Log().Bytes()) {
		t.Error("the log that was handed in is another one")
	}
	if o.Log().Free() != s.Log().Free() {
		t.Errorf("%d blocks are left", o.Log().Free())
	}
	put(t, o, class("b"))
	sound(t, o)
}

// P6.3: what did not last in the log that was handed in lasts in the store.
func TestOpenOfWhatDoesNotLast(t *testing.T) {
	l := blocks.New(9)
	a := class("a")
	a.Version, a.Born = 1, 1
	b, _ := codec.Change(api.Event{Version: 1, Object: a})
	ok(t, l.Append(b))
	s := store.Open(l)
	ok(t, l.Crash(0, 0))
	if s == nil || s.Version() != 1 {
		t.Fatal("not opened")
	}
	sound(t, s)
}

// logOf is a log of changes.
func logOf(t *testing.T, l ...api.Event) *blocks.Log {
	t.Helper()
	log := blocks.New(api.MaxBlocks)
	for _, x := range l {
		b, e := codec.Change(x)
		ok(t, e)
		ok(t, log.Append(b))
	}
	return log
}

// at is an object of a version, and of a first one.
func at(o api.Object, version, born uint64) api.Object {
	o.Version, o.Born = version, born
	return o
}

func there(version uint64, o api.Object) api.Event {
	return api.Event{Version: version, Object: o}
}

func gone(version uint64, o api.Object) api.Event {
	return api.Event{Version: version, Gone: true, Object: o}
}

// P6.3: changes that may be.
func TestOpenOfChanges(t *testing.T) {
	a, c := class("a"), claim("c")
	deleting := at(c, 2, 1)
	deleting.Deleting = true
	for _, l := range [][]api.Event{
		nil,
		{there(1, at(a, 1, 1))},
		{there(1, at(a, 1, 1)), there(2, at(a, 2, 1)), there(3, at(a, 3, 1))},
		{there(1, at(a, 1, 1)), gone(2, at(a, 1, 1)), there(3, at(a, 3, 3))},
		{there(1, at(a, 1, 1)), there(2, at(node("a"), 2, 2)), gone(3, at(a, 1, 1)), gone(4, at(node("a"), 2, 2))},
		{there(1, at(c, 1, 1)), there(2, deleting), there(3, at(c, 3, 1))}, // of Deleting nothing is asked
	} {
		s := store.Open(logOf(t, l...))
		if s == nil {
			t.Fatalf("Open of %+v is nil", l)
		}
		if !slices.Equal(s.Since(0), l) {
			t.Errorf("Open of %+v: %+v", l, s.Since(0))
		}
		sound(t, s)
	}
}

// P6.3: changes that may not be.
func TestOpenOfWrongChanges(t *testing.T) {
	a, b, c := class("a"), class("b"), claim("c")
	other, deleting := at(c, 1, 1), at(c, 1, 1)
	other.Size, deleting.Deleting = 11, true
	first, claimed, away := there(1, at(a, 1, 1)), there(1, at(c, 1, 1)), gone(2, at(a, 1, 1))
	for what, lists := range map[string][][]api.Event{
		"the first version is not 1": {
			{there(0, at(a, 0, 0))},
			{there(2, at(a, 2, 2))},
			{there(math.MaxUint64, at(a, math.MaxUint64, math.MaxUint64))},
		},
		"a version is not one more than the last one": {
			{first, there(0, at(a, 0, 1))}, {first, there(1, at(a, 1, 1))}, {first, there(3, at(a, 3, 1))},
			{first, there(1, at(b, 1, 1))}, {first, there(3, at(b, 3, 3))},
			{first, gone(1, at(a, 1, 1))}, {first, gone(3, at(a, 1, 1))},
			{first, away, there(1, at(a, 1, 1))}, {first, away, there(2, at(b, 2, 2))},
		},
		"an object of another version": {
			{there(1, at(a, 0, 1))}, {there(1, at(a, 2, 1))},
			{first, there(2, at(a, 1, 1))}, {first, there(2, at(a, 3, 1))},
			{first, there(2, at(b, 1, 2))}, {first, there(2, at(b, 3, 2))},
		},
		"another Born": {
			{there(1, at(a, 1, 0))}, {there(1, at(a, 1, 2))},
			{first, there(2, at(a, 2, 2))}, {first, there(2, at(a, 2, 0))},
			{first, there(2, at(b, 2, 1))}, {first, there(2, at(b, 2, 0))},
			{first, away, there(3, at(a, 3, 1))},
		},
		"another Version and Born": {
			{there(1, at(a, 0, 0))}, {first, there(2, at(b, 1, 1))}, {first, there(2, at(b, 3, 3))},
		},
		"gone, but not there": {
			{gone(1, at(a, 1, 1))}, {gone(1, at(a, 0, 0))},
			{first, gone(2, at(b, 1, 1))}, {first, gone(2, at(node("a"), 1, 1))},
			{first, away, gone(3, at(a, 1, 1))}, {first, away, gone(3, at(a, 0, 0))},
		},
		"gone, but not as it was": {
			{first, gone(2, at(a, 2, 1))}, {first, gone(2, at(a, 1, 2))}, {first, gone(2, at(a, 0, 0))},
			{first, there(2, at(a, 2, 1)), gone(3, at(a, 1, 1))},
			{claimed, gone(2, other)}, {claimed, gone(2, deleting)},
		},
	} {
		for _, l := range lists {
			if s := store.Open(logOf(t, l...)); s != nil {
				t.Errorf("%s: Open of %+v: %+v", what, l, s.Since(0))
			}
		}
	}
}

// P6.3: a record that can't be read.
func TestOpenOfWrongRecords(t *testing.T) {
	right, _ := codec.Change(there(2, at(class("b"), 2, 2)))
	for _, b := range [][]byte{{0}, []byte("x"), right[:len(right)-1], append(slices.Clone(right), 0), make([]byte, api.MaxRecord), bytes.Replace(right, []byte("b"), []byte("B"), 1)} {
		l := logOf(t, there(1, at(class("a"), 1, 1)))
		ok(t, l.Append(b))
		if store.Open(l) != nil {
			t.Errorf("Open of a log with % x is not nil", b)
		}
		ok(t, l.Append(right))
		if store.Open(l) != nil {
			t.Errorf("Open of a log with % x and more is not nil", b)
		}
	}
}

// P6.3: as many objects as there may be, and one more.
func TestOpenOfTooMany(t *testing.T) {
	var l []api.Event
	for i := range api.MaxObjects {
		v := uint64(i + 1)
		l = append(l, there(v, at(class(fmt.Sprint("c", i)), v, v)))
	}
	if s := store.Open(logOf(t, l...)); s == nil || len(s.All()) != api.MaxObjects {
		t.Fatal("nil, or not all of them")
	}
	v := uint64(api.MaxObjects + 1)
	if store.Open(logOf(t, append(slices.Clone(l), there(v, at(class("x"), v, v)))...)) != nil {
		t.Error("one too many, and not nil")
	}
	again := append(slices.Clone(l), there(v, at(class("c7"), v, 8)))
	if store.Open(logOf(t, again...)) == nil {
		t.Error("another write of one that is there, and nil")
	}
	other := append(slices.Clone(l), gone(v, l[7].Object), there(v+1, at(class("x"), v+1, v+1)))
	if store.Open(logOf(t, other...)) == nil {
		t.Error("one in the place of another one, and nil")
	}
}

// P6.3, P6.5: for all that may be left of the record the store is as it was, or as behind the Put.
func TestCrash(t *testing.T) {
	s := history(t, 60)
	node, _ := s.Get(api.Key{Kind: api.Node, Name: "n"})
	big, _ := s.Get(object.Key(biggest(0)))
	deleting := claim("d")
	put(t, s, deleting)
	ok(t, s.Delete(object.Key(deleting)))
	before := of(s)
	deleting, _ = s.Get(object.Key(deleting))
	deleting.Deleting, deleting.Born, deleting.Size = false, 0, 99
	for _, o := range []api.Object{class("x"), claim("x"), node, big, deleting, {Kind: api.Pod, Name: longest, Claim: longest}} {
		behind := s.Fork()
		put(t, behind, o)
		after := of(behind)
		record := after.bytes[len(before.bytes):]
		last := len(record) - 1
		for record[last] == 0 {
			last--
		}
		for keep := range len(record)/64 + 2 {
			for torn := range api.BlockSize + 1 {
				c := s.Fork()
				ok(t, c.Crash(o, keep, torn))
				want := before
				here := len(record)/64 <= keep+min(torn, 1) // all blocks of the record
				if here && keep*64+torn > last {
					want = after
				}
				if got := of(c); !same(got, want) {
					t.Fatalf("Crash(%+v, %d, %d): version %d; want %d", o, keep, torn, got.version, want.version)
				}
			}
		}
		c := s.Fork()
		ok(t, c.Crash(o, math.MaxInt, 64))
		is(t, c, after)
		ok(t, c.Crash(o, math.MaxInt, 64)) // of that version there is none any more
		is(t, c, after)
	}
	is(t, s, before)
}

// P6.3: behind a Crash the store goes on.
func TestCrashGoesOn(t *testing.T) {
	s := made(t, 9)
	put(t, s, class("a"))
	ok(t, s.Crash(claim("c"), 0, 20))
	if s.Log().Free() != 8 {
		t.Errorf("%d blocks are left", s.Log().Free())
	}
	x := put(t, s, class("b"))
	if x.Version != 2 {
		t.Errorf("%+v", x)
	}
	sound(t, s)
	ok(t, s.Crash(claim("c"), 1, 0))
	if x, ok := s.Get(api.Key{Kind: api.Claim, Name: "c"}); x != at(claim("c"), 3, 3) || !ok {
		t.Errorf("%+v", x)
	}
	ok(t, s.Delete(api.Key{Kind: api.Claim, Name: "c"}))
	sound(t, s)
}

// P6.3: of what Put would refuse nothing is written.
func TestCrashWithoutPut(t *testing.T) {
	s := history(t, 60)
	before := of(s)
	again, _ := s.Get(api.Key{Kind: api.Node, Name: "n"})
	again.Version--
	for _, o := range append(slices.Clone(wrong), class("a"), again, at(class("x"), 1, 1)) {
		for _, keep := range []int{0, 1, 9, math.MaxInt} {
			ok(t, s.Crash(o, keep, 64))
			is(t, s, before)
		}
	}
	full := made(t, 600)
	for i := range api.MaxObjects {
		put(t, full, class(fmt.Sprint("c", i)))
	}
	before = of(full)
	ok(t, full.Crash(class("x"), 9, 64))
	is(t, full, before)
}

// P6.3
func TestCrashErrors(t *testing.T) {
	s := history(t, 60)
	before := of(s)
	for _, o := range []api.Object{class("x"), class("X"), class("a"), {}} {
		for _, c := range []struct{ keep, torn int }{
			{-1, 0}, {math.MinInt, 0}, {0, -1}, {0, math.MinInt}, {0, 65}, {0, math.MaxInt}, {-1, 65}, {9, 65}, {9, -1},
		} {
			if e := s.Crash(o, c.keep, c.torn); e != api.ErrRange {
				t.Errorf("Crash(%+v, %d, %d): %d", o, c.keep, c.torn, e)
			}
			is(t, s, before)
		}
	}
}

// P4, P6.3
func TestFork(t *testing.T) {
	s := history(t, 60)
	before := of(s)
	for i, change := range []func(*store.Store) api.Errno{
		func(s *store.Store) api.Errno { _, e := s.Put(class("x")); return e },
		func(s *store.Store) api.Errno { o, _ := s.Get(object.Key(node("n"))); _, e := s.Put(o); return e },
		func(s *store.Store) api.Errno { return s.Delete(object.Key(node("n"))) },
		func(s *store.Store) api.Errno { return s.Delete(object.Key(biggest(0))) },
		func(s *store.Store) api.Errno { return s.Remove(object.Key(biggest(0)), 4) },
		func(s *store.Store) api.Errno { return s.Crash(class("x"), 9, 0) },
	} {
		a, b := s.Fork(), s.Fork().Fork()
		ok(t, change(a))
		is(t, s, before)
		is(t, b, before)
		sound(t, a)
		if same(of(a), before) {
			t.Errorf("change %d changes nothing", i)
		}
		c := s.Fork()
		d := c.Fork()
		ok(t, change(c))
		is(t, d, before)
		is(t, s, before)
	}
	f := s.Fork()
	put(t, s, class("x"))
	put(t, f, node("y"))
	sound(t, s)
	sound(t, f)
	if s.Since(9)[0].Object.Name != "x" || f.Since(9)[0].Object.Name != "y" {
		t.Errorf("%+v, %+v", s.Since(9), f.Since(9))
	}
}

// P3: what is answered is no part of the store.
func TestMemory(t *testing.T) {
	s := history(t, 60)
	before := of(s)
	for _, l := range [][]api.Object{s.All(), s.List(api.Class), s.List(api.Claim)} {
		clear(l)
		_ = append(l, class("x"), class("y"))
	}
	for v := range uint64(9) {
		clear(s.Since(v))
		_ = append(s.Since(v), there(99, class("x")))
	}
	l := s.Log()
	ok(t, l.Append([]byte("x")))
	clear(l.Bytes())
	ok(t, s.Log().Crash(0, 0))
	is(t, s, before)
	changes := s.Since(3)
	put(t, s, class("x"))
	if !slices.Equal(changes, before.changes[3:]) {
		t.Errorf("what was answered is another one: %+v", changes)
	}
}

// P1
func TestNil(t *testing.T) {
	var s *store.Store
	if o, e := s.Put(class("a")); o != (api.Object{}) || e != api.ErrNil {
		t.Errorf("Put = %+v, %d", o, e)
	}
	if o, e := s.Put(api.Object{}); o != (api.Object{}) || e != api.ErrNil {
		t.Errorf("Put = %+v, %d", o, e)
	}
	for _, e := range []api.Errno{s.Delete(api.Key{}), s.Remove(api.Key{}, 0), s.Crash(class("a"), 0, 0), s.Crash(api.Object{}, -1, 65)} {
		if e != api.ErrNil {
			t.Errorf("%d", e)
		}
	}
	if o, ok := s.Get(api.Key{}); o != (api.Object{}) || ok {
		t.Errorf("Get = %+v, %v", o, ok)
	}
	if s.List(api.Class) != nil || s.All() != nil || s.Version() != 0 || s.Since(0) != nil || s.Log() != nil || s.Fork() != nil {
		t.Error("a nil store has something")
	}
}

// model is a store as the chapter tells it: objects, the version, and how many blocks are left.
type model struct {
	objects map[api.Key]api.Object
	version uint64
	free    int
}

// change is done, if it has room.
func (m *model) change(x api.Event) api.Errno {
	b, _ := codec.Change(x)
	need := blocks.Need(len(b))
	if need > m.free {
		return api.ErrFull
	}
	m.free -= need
	m.version++
	if x.Gone {
		delete(m.objects, object.Key(x.Object))
	} else {
		m.objects[object.Key(x.Object)] = x.Object
	}
	return api.OK
}

func (m *model) put(o api.Object) (api.Object, api.Errno) {
	was, ok := m.objects[object.Key(o)]
	switch {
	case !object.Right(o):
		return api.Object{}, api.ErrForm
	case ok && was.Version != o.Version, !ok && o.Version != 0:
		return api.Object{}, api.ErrConflict
	}
	born := m.version + 1
	if ok {
		born = was.Born
	}
	o.Version, o.Born, o.Deleting = m.version+1, born, ok && was.Deleting
	if e := m.change(there(o.Version, o)); e != api.OK {
		return api.Object{}, e
	}
	return o, api.OK
}

func (m *model) delete(k api.Key) api.Errno {
	o, ok := m.objects[k]
	switch {
	case !ok:
		return api.ErrNone
	case o.Hold && o.Deleting:
		return api.OK
	case !o.Hold:
		return m.change(gone(m.version+1, o))
	}
	o.Version, o.Deleting = m.version+1, true
	return m.change(there(o.Version, o))
}

func (m *model) remove(k api.Key, version uint64) api.Errno {
	o, ok := m.objects[k]
	switch {
	case !ok:
		return api.ErrNone
	case o.Version != version:
		return api.ErrConflict
	}
	return m.change(gone(m.version+1, o))
}

// P6.1 to P6.6: whatever comes behind whatever.
func TestAnyOrder(t *testing.T) {
	r := rand.New(rand.NewSource(6))
	kinds := []func(string) api.Object{class, node, claim}
	for range 60 {
		n := 1 + r.Intn(80)
		s, m := made(t, n), &model{objects: map[api.Key]api.Object{}, free: n}
		for range 100 {
			o := kinds[r.Intn(3)]([]string{"a", "b", "c/d", "B"}[r.Intn(4)])
			k := object.Key(o)
			if was, ok := s.Get(k); ok && r.Intn(4) > 0 {
				o = was
				o.Hold = r.Intn(2) == 0
			}
			var got, want api.Errno
			switch r.Intn(6) {
			case 0, 1, 2:
				var x, y api.Object
				x, got = s.Put(o)
				y, want = m.put(o)
				if x != y {
					t.Fatalf("Put(%+v) = %+v; want %+v", o, x, y)
				}
			case 3:
				got, want = s.Delete(k), m.delete(k)
			case 4:
				got, want = s.Remove(k, o.Version), m.remove(k, o.Version)
			default:
				keep := r.Intn(2) * 9
				got = s.Crash(o, keep, 0)
				if keep > 0 {
					m.put(o)
				}
			}
			if got != want {
				t.Fatalf("%+v: %d; want %d", o, got, want)
			}
			if s.Version() != m.version || s.Log().Free() != m.free || len(s.All()) != len(m.objects) {
				t.Fatalf("%d, %d; want %d, %d", s.Version(), s.Log().Free(), m.version, m.free)
			}
			for _, o := range s.All() {
				if m.objects[object.Key(o)] != o {
					t.Fatalf("%+v; want %+v", o, m.objects[object.Key(o)])
				}
			}
			if r.Intn(20) == 0 {
				sound(t, s)
			}
		}
		sound(t, s)
	}
}
