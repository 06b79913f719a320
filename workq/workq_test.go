package workq_test

import (
	"math"
	"math/rand"
	"slices"
	"strconv"
	"testing"

	"wharfinger/api"
	"wharfinger/workq"
)

const end = math.MaxUint64 // of time

func key(name string) api.Key { return api.Key{Kind: api.Pod, Name: name} }

func keys(names ...string) []api.Key {
	var l []api.Key
	for _, n := range names {
		l = append(l, key(n))
	}
	return l
}

func ok(t *testing.T, e api.Errno) {
	t.Helper()
	if e != api.OK {
		t.Fatalf("error %d", e)
	}
}

func add(t *testing.T, q *workq.Queue, names ...string) {
	t.Helper()
	for _, n := range names {
		ok(t, q.Add(key(n)))
	}
}

func fail(t *testing.T, q *workq.Queue, name string, nows ...uint64) {
	t.Helper()
	for _, now := range nows {
		ok(t, q.Fail(key(name), now))
	}
}

// due holds a queue to when a key is due.
func due(t *testing.T, q *workq.Queue, name string, want uint64) {
	t.Helper()
	if d, ok := q.Due(key(name)); d != want || !ok {
		t.Fatalf("%s is due at %d, %v; want %d", name, d, ok, want)
	}
}

func fails(t *testing.T, q *workq.Queue, name string, want int) {
	t.Helper()
	if n := q.Fails(key(name)); n != want {
		t.Fatalf("%s has failed %d times; want %d", name, n, want)
	}
}

// takes holds a queue to what is taken at a time.
func takes(t *testing.T, q *workq.Queue, now uint64, want string) {
	t.Helper()
	if k, ok := q.Take(now); k != key(want) || !ok {
		t.Fatalf("Take(%d) = %v, %v; want %s", now, k, ok, want)
	}
}

// rests tells that nothing is taken at a time, and nothing changes.
func rests(t *testing.T, q *workq.Queue, now uint64) {
	t.Helper()
	before := q.List()
	if k, ok := q.Take(now); k != (api.Key{}) || ok {
		t.Fatalf("Take(%d) = %v, %v; want none", now, k, ok)
	}
	waits(t, q, before...)
}

// waits holds a queue to all that wait, and to what it tells of them.
func waits(t *testing.T, q *workq.Queue, want ...api.Key) {
	t.Helper()
	if l := q.List(); !slices.Equal(l, want) || q.Len() != len(want) {
		t.Fatalf("%v, %d; want %v", l, q.Len(), want)
	}
	next, there := q.Next()
	if there != (len(want) > 0) {
		t.Fatalf("Next = %d, %v", next, there)
	}
	least := uint64(0)
	for i, k := range want {
		d, ok := q.Due(k)
		if !ok || d < least || i == 0 && d != next {
			t.Fatalf("%v is due at %d, %v; Next is %d", k, d, ok, next)
		}
		least = d
	}
	if !there && next != 0 {
		t.Fatalf("Next of none is %d", next)
	}
}

// P8.2: a new one has nothing, and shares nothing with others.
func TestNew(t *testing.T) {
	q := workq.New()
	if q == nil {
		t.Fatal("nil")
	}
	waits(t, q)
	rests(t, q, 0)
	rests(t, q, end)
	if d, ok := q.Due(api.Key{}); d != 0 || ok || q.Fails(api.Key{}) != 0 {
		t.Errorf("Due = %d, %v", d, ok)
	}
	add(t, workq.New(), "a")
	waits(t, workq.New())
}

// P8.1, P8.3
func TestAdd(t *testing.T) {
	q := workq.New()
	add(t, q, "b", "c", "a")
	waits(t, q, keys("b", "c", "a")...)
	add(t, q, "b", "a", "c", "b") // each waits once, and its place stays
	waits(t, q, keys("b", "c", "a")...)
	due(t, q, "a", 0)
	fails(t, q, "a", 0)
	takes(t, q, 0, "b")
	waits(t, q, keys("c", "a")...)
	add(t, q, "b") // it waits anew
	waits(t, q, keys("c", "a", "b")...)
}

// P8.1: a key that is due later is due at 0 from now on, where it stands.
func TestAddOfWhatWaits(t *testing.T) {
	q := workq.New()
	add(t, q, "a")
	fail(t, q, "b", 5, 5)
	add(t, q, "c")
	waits(t, q, keys("a", "c", "b")...)
	add(t, q, "b")
	waits(t, q, keys("a", "b", "c")...)
	due(t, q, "b", 0)
	fails(t, q, "b", 2)
	fail(t, q, "b", 5)
	due(t, q, "b", 9)
	waits(t, q, keys("a", "c", "b")...)
}

// P8.1: keys are of kinds, and any will do.
func TestAnyKey(t *testing.T) {
	q := workq.New()
	l := []api.Key{{}, {Kind: api.Pod}, {Name: "a"}, {Kind: api.Pod, Name: "a"}, {Kind: api.Claim, Name: "a"}, {Kind: 255, Name: "\xff \x00"}}
	for _, k := range l {
		ok(t, q.Add(k))
	}
	waits(t, q, l...)
	ok(t, q.Fail(l[0], 3))
	for _, k := range append(l[1:], l[0]) {
		if x, ok := q.Take(4); x != k || !ok {
			t.Fatalf("%v, %v; want %v", x, ok, k)
		}
	}
	if q.Fails(l[0]) != 1 || q.Fails(l[3]) != 0 {
		t.Error("another one's failures")
	}
}

// P8.1, P8.2, and the example of the chapter.
func TestFail(t *testing.T) {
	q := workq.New()
	fail(t, q, "a", 10)
	due(t, q, "a", 11)
	fail(t, q, "a", 10)
	due(t, q, "a", 12)
	fail(t, q, "a", 10)
	due(t, q, "a", 14)
	fails(t, q, "a", 3)
	fails(t, q, "b", 0)
	takes(t, q, 14, "a")
	fails(t, q, "a", 3) // they last till they are forgotten
	add(t, q, "a")
	due(t, q, "a", 0)
	fail(t, q, "a", 1) // ahead of when it failed last
	due(t, q, "a", 9)
	fails(t, q, "a", 4)
}

// P8.1, P8.2
func TestFailuresAreForty(t *testing.T) {
	q := workq.New()
	for i := 1; i <= 100; i++ {
		fail(t, q, "a", 1000)
		fails(t, q, "a", min(i, 40))
		due(t, q, "a", 1000+[]uint64{1, 2, 4, 8, 16, 32, 64}[min(i-1, 6)])
	}
	if q.Len() != 1 {
		t.Errorf("%d wait", q.Len())
	}
}

// P8.1: who waits keeps its place; who does not stands behind all that do.
func TestPlaces(t *testing.T) {
	q := workq.New()
	add(t, q, "a", "b", "c")
	fail(t, q, "b", 0)
	fail(t, q, "a", 0)
	fail(t, q, "x", 0)
	fail(t, q, "c", 0)
	waits(t, q, keys("a", "b", "c", "x")...) // all are due at 1
	takes(t, q, 1, "a")
	fails(t, q, "a", 1)
	ok(t, q.Forget(key("a")))
	fail(t, q, "a", 0)
	waits(t, q, keys("b", "c", "x", "a")...)
	fail(t, q, "b", 7)
	fail(t, q, "y", 8)
	fail(t, q, "c", 7)
	waits(t, q, keys("x", "a", "b", "c", "y")...) // b, c and y at 9
	add(t, q, "y", "c")
	waits(t, q, keys("c", "y", "x", "a", "b")...)
}

// P8.1, P5: a time is at most the greatest one.
func TestEndOfTime(t *testing.T) {
	for _, c := range []struct {
		now      uint64
		failures int
		want     uint64
	}{
		{end, 1, end}, {end, 7, end}, {end, 40, end},
		{end - 1, 1, end}, {end - 1, 2, end}, {end - 2, 1, end - 1}, {end - 2, 2, end},
		{end - 63, 7, end}, {end - 64, 7, end}, {end - 65, 7, end - 1}, {end - 65, 50, end - 1},
		{1 << 63, 7, 1<<63 + 64}, {0, 1, 1}, {0, 7, 64},
	} {
		q := workq.New()
		for range c.failures {
			fail(t, q, "a", c.now)
		}
		due(t, q, "a", c.want)
		rests(t, q, c.want-1)
		takes(t, q, c.want, "a")
	}
	q := workq.New()
	fail(t, q, "b", end)
	fail(t, q, "a", end-1)
	add(t, q, "c")
	waits(t, q, keys("c", "b", "a")...)
}

// full is a queue of as many keys as may wait: 0, 1, .., each third one of them later.
func full(t *testing.T) (*workq.Queue, []api.Key) {
	t.Helper()
	q := workq.New()
	var now, later []api.Key
	for i := range api.MaxKeys {
		k := key(strconv.Itoa(i))
		if i%3 == 0 {
			ok(t, q.Fail(k, 5))
			later = append(later, k)
		} else {
			ok(t, q.Add(k))
			now = append(now, k)
		}
	}
	return q, append(now, later...)
}

// P8.1: no more wait than may, and nothing changes by what is refused.
func TestFull(t *testing.T) {
	q, all := full(t)
	waits(t, q, all...)
	if q.Len() != 256 {
		t.Errorf("%d wait", q.Len())
	}
	for _, k := range []api.Key{key("x"), {}, {Kind: api.Node, Name: "7"}} {
		for range 3 {
			if e := q.Add(k); e != api.ErrFull {
				t.Errorf("Add: %d", e)
			}
			if e := q.Fail(k, 0); e != api.ErrFull {
				t.Errorf("Fail: %d", e)
			}
			ok(t, q.Forget(k))
		}
		if d, ok := q.Due(k); d != 0 || ok || q.Fails(k) != 0 {
			t.Errorf("%v: %d, %v, %d", k, d, ok, q.Fails(k))
		}
		waits(t, q, all...)
	}
	add(t, q, "1", "3") // who waits may go on
	due(t, q, "3", 0)
	fail(t, q, "2", 100)
	due(t, q, "2", 101)
	if q.Len() != 256 {
		t.Errorf("%d wait", q.Len())
	}
	takes(t, q, 0, "1")
	fail(t, q, "x", 100)
	if e := q.Add(key("1")); e != api.ErrFull {
		t.Errorf("Add: %d", e)
	}
	takes(t, q, 0, "3")
	add(t, q, "1")
	if e := q.Fail(key("3"), 0); e != api.ErrFull {
		t.Errorf("Fail: %d", e)
	}
	fails(t, q, "3", 1) // as it was
	ok(t, q.Forget(key("3")))
	fails(t, q, "3", 0)
}

// P8.1: failures are of keys that do not wait, too, however many they are.
func TestFailuresOfMany(t *testing.T) {
	q := workq.New()
	for i := range 1000 {
		for range i%3 + 1 {
			fail(t, q, strconv.Itoa(i), 0)
		}
		takes(t, q, 4, strconv.Itoa(i))
	}
	for i := range 1000 {
		fails(t, q, strconv.Itoa(i), i%3+1)
	}
}

// P8.1: of what is forgotten only the failures change.
func TestForget(t *testing.T) {
	q := workq.New()
	ok(t, q.Forget(key("a")))
	waits(t, q)
	fail(t, q, "a", 0, 0, 0)
	fail(t, q, "b", 3)
	fail(t, q, "c", 0, 0, 0)
	ok(t, q.Forget(key("a")))
	fails(t, q, "a", 0)
	fails(t, q, "b", 1)
	due(t, q, "a", 4)
	waits(t, q, keys("a", "b", "c")...)
	ok(t, q.Forget(key("a")))
	fail(t, q, "a", 6)
	fails(t, q, "a", 1)
	due(t, q, "a", 7)
	fails(t, q, "c", 3)
}

// P8.1
func TestTake(t *testing.T) {
	q := workq.New()
	fail(t, q, "late", 20)
	fail(t, q, "d", 10)
	fail(t, q, "e", 10)
	fail(t, q, "soon", 3)
	rests(t, q, 0)
	rests(t, q, 3)
	takes(t, q, 4, "soon")
	rests(t, q, 10)
	takes(t, q, 11, "d")
	add(t, q, "x", "y")
	takes(t, q, 11, "x") // ahead of what is due later, be it longer there
	takes(t, q, 30, "y")
	takes(t, q, 30, "e")
	rests(t, q, 20)
	takes(t, q, end, "late")
	rests(t, q, end)
	waits(t, q)
	if d, ok := q.Due(key("late")); d != 0 || ok {
		t.Errorf("what was taken is due at %d, %v", d, ok)
	}
}

// P8.1, P8.4: the first one that is due at 0 comes, wherever it stands among the others.
func TestTakeWherever(t *testing.T) {
	for zero := range 5 {
		for one := range 5 {
			q := workq.New()
			for i := range 5 {
				fail(t, q, strconv.Itoa(i), uint64(i%2))
			}
			add(t, q, strconv.Itoa(zero), strconv.Itoa(one))
			takes(t, q, 5, strconv.Itoa(min(zero, one)))
		}
	}
}

// P8.2
func TestDelay(t *testing.T) {
	for fails, want := range map[int]uint64{
		math.MinInt: 0, math.MinInt + 1: 0, -64: 0, -1: 0, 0: 0,
		1: 1, 2: 2, 3: 4, 4: 8, 5: 16, 6: 32, 7: 64,
		8: 64, 9: 64, 40: 64, 41: 64, 63: 64, 64: 64, 65: 64, 66: 64, 128: 64, 1 << 32: 64, 1<<32 + 1: 64, math.MaxInt: 64,
	} {
		if d := workq.Delay(fails); d != want {
			t.Errorf("Delay(%d) = %d; want %d", fails, d, want)
		}
	}
}

// P8.2
func TestLists(t *testing.T) {
	q := workq.New()
	fail(t, q, "a", 50)
	fail(t, q, "b", 20)
	if d, ok := q.Next(); d != 21 || !ok {
		t.Errorf("Next = %d, %v", d, ok)
	}
	fail(t, q, "c", 50)
	fail(t, q, "d", 20)
	fail(t, q, "e", 1<<40)
	waits(t, q, keys("b", "d", "a", "c", "e")...)
	add(t, q, "f")
	if d, ok := q.Next(); d != 0 || !ok {
		t.Errorf("Next = %d, %v", d, ok)
	}
	waits(t, q, keys("f", "b", "d", "a", "c", "e")...)
	for _, k := range []api.Key{{}, key("x"), {Kind: api.Claim, Name: "a"}, {Kind: api.Pod}} {
		if d, ok := q.Due(k); d != 0 || ok || q.Fails(k) != 0 {
			t.Errorf("%v: %d, %v, %d", k, d, ok, q.Fails(k))
		}
	}
}

// P8.2, P4
func TestFork(t *testing.T) {
	q := workq.New()
	empty := q.Fork()
	add(t, q, "a", "b")
	fail(t, q, "c", 3)
	waits(t, empty)
	f := q.Fork()
	waits(t, f, keys("a", "b", "c")...)
	due(t, f, "c", 4)
	fails(t, f, "c", 1)
	takes(t, q, 0, "a")
	fail(t, q, "c", 9)
	add(t, q, "x", "y")
	waits(t, f, keys("a", "b", "c")...)
	due(t, f, "c", 4)
	fails(t, f, "c", 1)
	ok(t, f.Forget(key("c")))
	add(t, f, "z", "c")
	fail(t, f, "b", 2)
	waits(t, q, keys("b", "x", "y", "c")...)
	due(t, q, "b", 0)
	due(t, q, "c", 11)
	fails(t, q, "b", 0)
	fails(t, q, "c", 2)
	waits(t, f, keys("a", "c", "z", "b")...)
	fails(t, empty, "c", 0)
	whole, all := full(t)
	g := whole.Fork()
	takes(t, whole, 0, "1")
	waits(t, g, all...)
	if e := g.Add(key("x")); e != api.ErrFull {
		t.Errorf("Add: %d", e)
	}
}

// P3: what is answered is no part of the queue.
func TestMemory(t *testing.T) {
	q := workq.New()
	add(t, q, "a", "b", "c")
	l := q.List()
	clear(l)
	_ = append(l[:0], keys("x", "x", "x", "x")...)
	waits(t, q, keys("a", "b", "c")...)
	l = q.List()
	takes(t, q, 0, "a")
	add(t, q, "d")
	fail(t, q, "b", 0)
	if !slices.Equal(l, keys("a", "b", "c")) {
		t.Errorf("what was answered is another one: %v", l)
	}
}

// P1
func TestNil(t *testing.T) {
	var q *workq.Queue
	for _, e := range []api.Errno{q.Add(key("a")), q.Fail(key("a"), 0), q.Fail(key("a"), end), q.Forget(key("a")), q.Add(api.Key{})} {
		if e != api.ErrNil {
			t.Errorf("%d", e)
		}
	}
	for _, now := range []uint64{0, end} {
		if k, ok := q.Take(now); k != (api.Key{}) || ok {
			t.Errorf("Take = %v, %v", k, ok)
		}
	}
	if d, ok := q.Due(key("a")); d != 0 || ok {
		t.Errorf("Due = %d, %v", d, ok)
	}
	if d, ok := q.Next(); d != 0 || ok {
		t.Errorf("Next = %d, %v", d, ok)
	}
	if q.Fails(key("a")) != 0 || q.List() != nil || q.Len() != 0 || q.Fork() != nil {
		t.Error("a nil queue has something")
	}
}

// model is a queue as the chapter tells it: who waits, since when and till when; and the failures.
type model struct {
	waits []waiting
	fails map[api.Key]int
	came  int
}

type waiting struct {
	key  api.Key
	due  uint64
	came int
}

func (m *model) at(k api.Key) int {
	return slices.IndexFunc(m.waits, func(w waiting) bool { return w.key == k })
}

func (m *model) add(k api.Key, due uint64) bool {
	if i := m.at(k); i >= 0 {
		m.waits[i].due = due
	} else if len(m.waits) == 256 {
		return false
	} else {
		m.came++
		m.waits = append(m.waits, waiting{k, due, m.came})
	}
	slices.SortFunc(m.waits, func(a, b waiting) int {
		if a.due < b.due || a.due == b.due && a.came < b.came {
			return -1
		}
		return 1
	})
	return true
}

func (m *model) fail(k api.Key, now uint64) bool {
	fails := min(m.fails[k]+1, 40)
	due := now
	for range min(1<<min(fails-1, 6), 64) {
		if due < end {
			due++
		}
	}
	if !m.add(k, due) {
		return false
	}
	m.fails[k] = fails
	return true
}

func (m *model) take(now uint64) (api.Key, bool) {
	if len(m.waits) == 0 || m.waits[0].due > now {
		return api.Key{}, false
	}
	k := m.waits[0].key
	m.waits = m.waits[1:]
	return k, true
}

// step does one thing with a queue and its model: what, with which key, and at what time.
func step(t *testing.T, q *workq.Queue, m *model, what byte, k api.Key, now uint64) {
	t.Helper()
	var e api.Errno
	done := true
	switch what % 8 {
	case 0, 1, 2:
		e, done = q.Add(k), m.add(k, 0)
	case 3, 4, 5:
		e, done = q.Fail(k, now), m.fail(k, now)
	case 6:
		e = q.Forget(k)
		delete(m.fails, k)
	default:
		x, got := q.Take(now)
		if y, want := m.take(now); x != y || got != want {
			t.Fatalf("Take(%d) = %v, %v; want %v, %v", now, x, got, y, want)
		}
	}
	if done && e != api.OK || !done && e != api.ErrFull {
		t.Fatalf("%d, %v, %d: %d; want %v", what, k, now, e, done)
	}
	if q.Fails(k) != m.fails[k] {
		t.Fatalf("%v has failed %d times; want %d", k, q.Fails(k), m.fails[k])
	}
	var l []api.Key
	for _, w := range m.waits {
		l = append(l, w.key)
		if d, ok := q.Due(w.key); d != w.due || !ok {
			t.Fatalf("%v is due at %d, %v; want %d", w.key, d, ok, w.due)
		}
	}
	waits(t, q, l...)
	if _, ok := q.Due(k); ok != (m.at(k) >= 0) {
		t.Fatalf("%v waits: %v", k, ok)
	}
}

// drains tells that what is taken at the end of time is the list, and that all has been taken.
func drains(t *testing.T, q *workq.Queue) {
	t.Helper()
	for _, k := range q.List() {
		if x, ok := q.Take(end); x != k || !ok {
			t.Fatalf("Take = %v, %v; want %v", x, ok, k)
		}
	}
	waits(t, q)
	rests(t, q, end)
}

// P8.1 to P8.4: whatever comes behind whatever.
func TestAnyOrder(t *testing.T) {
	r := rand.New(rand.NewSource(8))
	for round := range 60 {
		q, m := workq.New(), &model{fails: map[api.Key]int{}}
		names := []int{1, 3, 9, 400}[round%4]
		times := []uint64{1, 5, 200, end}[r.Intn(4)]
		for range 700 {
			k := api.Key{Kind: api.Kind(1 + r.Intn(2)), Name: strconv.Itoa(r.Intn(names))}
			what := byte(r.Intn(8))
			if names > 9 && what > 5 && r.Intn(3) > 0 { // it fills
				what = 0
			}
			step(t, q, m, what, k, r.Uint64()%times)
			if r.Intn(9) == 0 {
				q = q.Fork()
			}
		}
		drains(t, q.Fork())
		drains(t, q)
	}
}

// P8.1 to P8.4
func FuzzQueue(f *testing.F) {
	f.Add([]byte{0, 1, 0, 0, 2, 0, 3, 1, 5, 3, 2, 4, 7, 0, 5, 7, 0, 6, 6, 1, 0, 0, 1, 0})
	f.Add([]byte{3, 7, 255, 3, 7, 255, 4, 8, 254, 7, 0, 255, 7, 0, 254, 3, 7, 191, 0, 7, 0})
	f.Fuzz(func(t *testing.T, ops []byte) {
		q, m := workq.New(), &model{fails: map[api.Key]int{}}
		for op := range slices.Chunk(ops, 3) {
			if len(op) < 3 {
				break
			}
			now := uint64(op[2])
			if now >= 128 { // as far from the end of time
				now -= 256
			}
			step(t, q, m, op[0], key(string(op[1:2])), now)
		}
		drains(t, q)
	})
}
