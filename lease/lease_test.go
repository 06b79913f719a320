package lease_test

import (
	"math"
	"math/rand"
	"strings"
	"testing"

	"wharfinger/api"
	"wharfinger/lease"
)

const (
	end     = math.MaxUint64
	longest = 1 << 40
	latest  = 1 << 60
)

func of(holder string, until, term uint64) lease.Lease {
	return lease.Lease{Holder: holder, Until: until, Term: term}
}

// tries holds Try to a lease; with an error to the zero one.
func tries(t *testing.T, l lease.Lease, who string, now, span uint64, want lease.Lease, err api.Errno) {
	t.Helper()
	if x, e := lease.Try(l, who, now, span); x != want || e != err {
		t.Errorf("Try(%+v, %q, %d, %d) = %+v, %d; want %+v, %d", l, who, now, span, x, e, want, err)
	}
}

func refuses(t *testing.T, l lease.Lease, who string, now, span uint64, err api.Errno) {
	t.Helper()
	tries(t, l, who, now, span, lease.Lease{}, err)
}

func releases(t *testing.T, l lease.Lease, who string, want lease.Lease, err api.Errno) {
	t.Helper()
	if x, e := lease.Release(l, who); x != want || e != err {
		t.Errorf("Release(%+v, %q) = %+v, %d; want %+v, %d", l, who, x, e, want, err)
	}
}

// P9.1, and the example of the chapter.
func TestTry(t *testing.T) {
	l := of("a", 10, 1)
	tries(t, lease.Lease{}, "a", 0, 10, l, api.OK)
	refuses(t, l, "b", 9, 10, api.ErrHeld)
	tries(t, l, "b", 10, 10, of("b", 20, 2), api.OK)
	tries(t, l, "b", 11, 1, of("b", 12, 2), api.OK)
	refuses(t, l, "b", 0, 10, api.ErrHeld)
	refuses(t, of("a", 1, 1), "b", 0, 10, api.ErrHeld)
	tries(t, of("a", 0, 1), "b", 0, 10, of("b", 10, 2), api.OK)
}

// P9.1: who holds it holds it on in the same term, and never for less.
func TestTryAgain(t *testing.T) {
	l := of("a", 15, 7)
	tries(t, l, "a", 6, 10, of("a", 16, 7), api.OK)
	tries(t, l, "a", 5, 10, l, api.OK)
	tries(t, l, "a", 6, 2, l, api.OK)
	tries(t, l, "a", 0, 1, l, api.OK)
	tries(t, l, "a", 14, 1, l, api.OK)
	tries(t, l, "a", 14, 2, of("a", 16, 7), api.OK)
	tries(t, l, "a", 15, 1, of("a", 16, 8), api.OK) // it was over: a new term
	tries(t, l, "a", 15, 2, of("a", 17, 8), api.OK)
	tries(t, l, "a", 99, 1, of("a", 100, 8), api.OK)
	tries(t, of("a", end, 3), "a", 5, 10, of("a", end, 3), api.OK)
}

// P9.1: what nobody holds may be had at any time, and what it says of the time counts nothing.
func TestTryOfNobodys(t *testing.T) {
	for _, until := range []uint64{0, 1, 50, end} {
		tries(t, of("", until, 4), "a", 5, 10, of("a", 15, 5), api.OK)
	}
	tries(t, lease.Lease{}, "a", latest, 1, of("a", latest+1, 1), api.OK)
}

// P9.1
func TestTryNames(t *testing.T) {
	for _, who := range []string{"", "A", " a", "a ", "a\n", "a_b", "\xff", "\x00", "é", "a,b", strings.Repeat("a", api.MaxName+1)} {
		refuses(t, lease.Lease{}, who, 0, 10, api.ErrForm)
		refuses(t, of(who, 100, 3), who, 0, 10, api.ErrForm)
		tries(t, of(who, 100, 3), "a", 100, 10, of("a", 110, 4), api.OK) // whoever held it
		if who != "" {
			refuses(t, of(who, 100, 3), "a", 99, 10, api.ErrHeld)
		}
	}
	for _, who := range []string{"a", "r0", "a-b.c#d/e", "-", strings.Repeat("z", api.MaxName)} {
		tries(t, lease.Lease{}, who, 0, 10, of(who, 10, 1), api.OK)
	}
}

// P9.1: spans, times, and terms at their ends.
func TestTryRanges(t *testing.T) {
	l := of("a", 15, 1)
	for _, span := range []uint64{0, longest + 1, 1 << 41, latest, 1 << 63, end} {
		refuses(t, lease.Lease{}, "a", 0, span, api.ErrRange)
		refuses(t, l, "a", 5, span, api.ErrRange)
		refuses(t, l, "a", 20, span, api.ErrRange)
	}
	for _, now := range []uint64{latest + 1, 1 << 61, 1 << 63, end} {
		refuses(t, lease.Lease{}, "a", now, 1, api.ErrRange)
		refuses(t, l, "a", now, longest, api.ErrRange)
		refuses(t, of("a", end, 1), "a", now, 1, api.ErrRange)
	}
	tries(t, lease.Lease{}, "a", 0, 1, of("a", 1, 1), api.OK)
	tries(t, lease.Lease{}, "a", 0, longest, of("a", longest, 1), api.OK)
	tries(t, l, "a", latest, longest, of("a", latest+longest, 2), api.OK)
	tries(t, of("a", end, 1), "a", latest, longest, of("a", end, 1), api.OK)
	tries(t, of("a", latest+1, 1), "a", latest, longest, of("a", latest+longest, 1), api.OK)
	tries(t, of("b", 1, end-1), "a", 1, 1, of("a", 2, end), api.OK)
	tries(t, of("b", 1, end), "a", 1, 1, of("a", 2, 0), api.OK) // Terms go round
}

// P2, P9.1: the error that is named first.
func TestTryErrors(t *testing.T) {
	l := of("b", 100, 1)
	refuses(t, l, "", 0, 0, api.ErrForm)
	refuses(t, l, "A", end, end, api.ErrForm)
	refuses(t, l, "A", 0, 1, api.ErrForm)
	refuses(t, l, "a", 0, 0, api.ErrRange)
	refuses(t, l, "a", 0, longest+1, api.ErrRange)
	refuses(t, of("b", end, 1), "a", latest+1, 1, api.ErrRange)
	refuses(t, of("b", end, 1), "a", latest, 1, api.ErrHeld)
}

// P9.1
func TestRelease(t *testing.T) {
	releases(t, of("a", 10, 5), "a", of("", 0, 5), api.OK)
	releases(t, of("a", 0, 5), "a", of("", 0, 5), api.OK)
	releases(t, of("a", end, end), "a", of("", 0, end), api.OK)
	releases(t, of("\xff", 3, 2), "\xff", of("", 0, 2), api.OK) // whoever holds it
	for _, who := range []string{"", "b", "A", "a ", "aa"} {
		releases(t, of("a", 10, 5), who, lease.Lease{}, api.ErrHeld)
	}
	for _, l := range []lease.Lease{{}, of("", 10, 5), of("", 0, 5)} {
		releases(t, l, "", lease.Lease{}, api.ErrHeld)
		releases(t, l, "a", lease.Lease{}, api.ErrHeld)
	}
	tries(t, of("", 0, 5), "b", 0, 1, of("b", 1, 6), api.OK) // the term goes on
}

// P9.1
func TestMine(t *testing.T) {
	for _, c := range []struct {
		l    lease.Lease
		who  string
		now  uint64
		want bool
	}{
		{of("a", 10, 1), "a", 0, true}, {of("a", 10, 1), "a", 9, true},
		{of("a", 10, 1), "a", 10, false}, {of("a", 10, 1), "a", 11, false}, {of("a", 10, 1), "a", end, false},
		{of("a", 0, 1), "a", 0, false}, {of("a", end, 1), "a", end - 1, true}, {of("a", end, 1), "a", end, false},
		{of("a", 10, 1), "b", 0, false}, {of("a", 10, 1), "", 0, false}, {of("a", 10, 1), "A", 0, false},
		{of("", 10, 1), "", 0, false}, {of("", 10, 1), "a", 0, false}, {lease.Lease{}, "", 0, false},
		{of("\xff", 10, 0), "\xff", 9, true},
	} {
		if x := lease.Mine(c.l, c.who, c.now); x != c.want {
			t.Errorf("Mine(%+v, %q, %d) = %v", c.l, c.who, c.now, x)
		}
	}
}

func checks(t *testing.T, g *lease.Guard, term uint64, want api.Errno, behind uint64) {
	t.Helper()
	if e := g.Check(term); e != want || g.Term() != behind {
		t.Errorf("Check(%d) = %d, then Term %d; want %d, %d", term, e, g.Term(), want, behind)
	}
}

// P9.2
func TestGuard(t *testing.T) {
	g := lease.NewGuard()
	if g == nil || g.Term() != 0 {
		t.Fatal("a new one")
	}
	checks(t, g, 0, api.OK, 0)
	checks(t, g, 2, api.OK, 2)
	checks(t, g, 1, api.ErrStale, 2)
	checks(t, g, 0, api.ErrStale, 2)
	checks(t, g, 2, api.OK, 2)
	checks(t, g, 3, api.OK, 3)
	checks(t, g, 1<<63, api.OK, 1<<63)
	checks(t, g, end, api.OK, end)
	checks(t, g, end-1, api.ErrStale, end)
	checks(t, g, 0, api.ErrStale, end)
	checks(t, g, end, api.OK, end)
	if lease.NewGuard().Term() != 0 {
		t.Error("a new one has seen another one's terms")
	}
}

// P9.2, P4
func TestFork(t *testing.T) {
	g := lease.NewGuard()
	checks(t, g, 5, api.OK, 5)
	f := g.Fork()
	checks(t, f, 5, api.OK, 5)
	checks(t, f, 4, api.ErrStale, 5)
	checks(t, f, 9, api.OK, 9)
	checks(t, g, 6, api.OK, 6)
	checks(t, f, 8, api.ErrStale, 9)
	checks(t, g, 10, api.OK, 10)
	if f.Term() != 9 {
		t.Errorf("Term %d", f.Term())
	}
}

// P1
func TestNil(t *testing.T) {
	var g *lease.Guard
	for _, term := range []uint64{0, 1, end} {
		if e := g.Check(term); e != api.ErrNil {
			t.Errorf("Check(%d) = %d", term, e)
		}
	}
	if g.Term() != 0 || g.Fork() != nil {
		t.Error("a nil guard has something")
	}
}

// acts tells that those who hold a lease may act at a guard, and nobody else by any term of theirs.
func acts(t *testing.T, l lease.Lease, terms map[string]uint64, now uint64, g *lease.Guard) {
	t.Helper()
	holders := 0
	for who := range terms {
		if lease.Mine(l, who, now) {
			holders++
		}
	}
	if holders > 1 {
		t.Fatalf("%d hold %+v at %d", holders, l, now)
	}
	if holders == 1 {
		if e := g.Check(l.Term); e != api.OK {
			t.Fatalf("who holds %+v is told %d", l, e)
		}
	}
	for who, term := range terms {
		if e := g.Fork().Check(term); (e == api.ErrStale) != (term < g.Term()) {
			t.Fatalf("%s, by %d, is told %d; the term is %d", who, term, e, g.Term())
		}
	}
}

// P9.3, P9.4: whoever asks, whenever.
func TestOneAtATime(t *testing.T) {
	r := rand.New(rand.NewSource(9))
	for range 200 {
		l, g, now := lease.Lease{}, lease.NewGuard(), uint64(0)
		terms := map[string]uint64{"a": 0, "b": 0, "c": 0} // the last one of each
		for range 200 {
			now += uint64(r.Intn(4))
			who := string(rune('a' + r.Intn(3)))
			if r.Intn(5) == 0 {
				x, e := lease.Release(l, who)
				if (e == api.OK) != (l.Holder == who) {
					t.Fatalf("Release of %+v by %s: %d", l, who, e)
				}
				if e == api.OK {
					l = x
				}
			} else if x, e := lease.Try(l, who, now, uint64(1+r.Intn(9))); e == api.OK {
				if l.Holder != "" && l.Holder != who && now < l.Until || !lease.Mine(x, who, now) {
					t.Fatalf("%s has %+v at %d, of %+v", who, x, now, l)
				}
				if isNew := !lease.Mine(l, who, now); isNew != (x.Term == l.Term+1) || !isNew && x.Term != l.Term {
					t.Fatalf("%+v behind %+v", x, l)
				}
				l, terms[who] = x, x.Term
			} else if e != api.ErrHeld || x != (lease.Lease{}) || l.Holder == who || now >= l.Until {
				t.Fatalf("%s is told %d at %d, of %+v", who, e, now, l)
			}
			acts(t, l, terms, now, g)
		}
	}
}
