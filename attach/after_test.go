package attach_test

import (
	"math"
	"strings"
	"testing"

	"wharfinger/api"
	"wharfinger/attach"
)

// behind holds After, at version 19, to what it is to tell.
func behind(t *testing.T, what string, want api.Act, c api.Call, r api.Result, all ...api.Object) {
	t.Helper()
	right := func(got api.Act) bool { return got == want }
	tells(t, what, all, right, func(all []api.Object) api.Act { return attach.After(all, 19, c, r) })
}

func failed(e api.Errno) api.Result { return api.Result{Err: e} }

// allErrors are all but OK, and numbers that are none.
var allErrors = []api.Errno{
	api.ErrNil, api.ErrForm, api.ErrRange, api.ErrNone, api.ErrConflict, api.ErrFull, api.ErrHeld, api.ErrStale, api.ErrBusy, api.ErrSpace, api.ErrSmall, api.ErrLost,
	4, 14, -1, math.MinInt, math.MaxInt,
}

// P13.3
func TestAfterPublish(t *testing.T) {
	in := at("n", api.Attaching, 7)
	behind(t, "it is there", write(num(phase(in, api.Attached), 0)), publish("n", 7), api.Result{}, aVolume(), aClaim(), aPod(), in)
	behind(t, "nothing else of the result is asked", write(num(phase(in, api.Attached), 0)), publish("n", 7), api.Result{Size: 5, Zone: "z", Tag: 3},
		single(aVolume()), aClaim(), aPod(), another(), in)
	for _, e := range allErrors {
		want := nothing
		switch e {
		case api.ErrStale:
			want = write(num(in, 20))
		case api.ErrNone:
			want = write(num(phase(in, api.Detaching), 20))
		}
		behind(t, "it is not", want, publish("n", 7), failed(e), aVolume(), aClaim(), aPod(), in)
		behind(t, "with an error nothing else is asked", want, publish("n", 7), api.Result{Err: e, Size: 5, Zone: "z", Tag: 3}, aVolume(), aClaim(), aPod(), in)
	}
}

// P13.3
func TestAfterUnpublish(t *testing.T) {
	out := deleting(at("n", api.Detaching, 7))
	behind(t, "it is gone", remove(out), unpublish("n", 7), api.Result{}, aVolume(), aClaim(), aPod(), out)
	behind(t, "nobody wants it", remove(out), unpublish("n", 7), api.Result{Size: 5}, phase(aVolume(), api.Erasing), out)
	for _, e := range allErrors {
		want := nothing
		if e == api.ErrStale {
			want = write(num(out, 20))
		}
		behind(t, "it is not", want, unpublish("n", 7), failed(e), aVolume(), aClaim(), aPod(), out)
	}
}

// P13.3, P5: behind the last number comes 0.
func TestAfterNumbersGoRound(t *testing.T) {
	in, out := at("n", api.Attaching, 7), at("n", api.Detaching, 7)
	stale := failed(api.ErrStale)
	if a := attach.After(list(aVolume(), aClaim(), aPod(), in), math.MaxUint64, publish("n", 7), stale); a != write(num(in, 0)) {
		t.Errorf("%+v", a)
	}
	if a := attach.After(list(aVolume(), aClaim(), aPod(), out), math.MaxUint64, unpublish("n", 7), stale); a != write(num(out, 0)) {
		t.Errorf("%+v", a)
	}
}

// P13.3: of some attachments that one which was asked for.
func TestAfterOfSome(t *testing.T) {
	m, n := at("m", api.Attaching, 8), at("n", api.Attaching, 7)
	behind(t, "the first one", write(num(phase(m, api.Attached), 0)), publish("m", 8), api.Result{}, aVolume(), aClaim(), aPod(), another(), m, n)
	behind(t, "the second one is not next", nothing, publish("n", 7), api.Result{}, aVolume(), aClaim(), aPod(), another(), m, n)
	behind(t, "the second one", write(num(phase(n, api.Attached), 0)), publish("n", 7), api.Result{}, aVolume(), aClaim(), aPod(), another(), at("m", api.Attached, 0), n)
	same := num(m, 7)
	behind(t, "of the same Num", write(num(phase(same, api.Attached), 0)), publish("m", 7), api.Result{}, aVolume(), aClaim(), aPod(), another(), same, n)
	behind(t, "of the same Num", write(num(phase(n, api.Attached), 0)), publish("n", 7), api.Result{}, aVolume(), aClaim(), aPod(), another(), at("m", api.Attached, 7), n)
	w := with(n, func(o *api.Object) { o.Name, o.Volume = "a", "w" })
	behind(t, "another volume's", write(num(phase(n, api.Attached), 0)), publish("n", 7), api.Result{}, aVolume(), aClaim(), aPod(), w, n)
	b := with(n, func(o *api.Object) { o.Name = "b" })
	behind(t, "two that are alike: the first one by its name", write(num(phase(b, api.Attached), 0)), publish("n", 7), api.Result{}, aVolume(), aClaim(), aPod(), n, b)
	rests := with(at("n", api.Attached, 7), func(o *api.Object) { o.Name = "b" })
	behind(t, "the Node and the Num count alone", write(num(rests, 20)), publish("n", 7), failed(api.ErrStale), aVolume(), aClaim(), aPod(), n, rests)
	other := num(rests, 6)
	behind(t, "of another Num", write(num(n, 20)), publish("n", 7), failed(api.ErrStale), aVolume(), aClaim(), aPod(), n, other)
}

// P13.3: behind what is not what is asked next, nothing.
func TestAfterOfOther(t *testing.T) {
	in, out := at("n", api.Attaching, 7), at("n", api.Detaching, 7)
	for _, e := range append(allErrors, api.OK) {
		r := failed(e)
		for _, change := range []func(c *api.Call){
			func(c *api.Call) { c.Verb = api.Erase }, func(c *api.Call) { c.Verb = 0 }, func(c *api.Call) { c.Num++ }, func(c *api.Call) { c.Num-- },
			func(c *api.Call) { c.Target = "w" }, func(c *api.Call) { c.Target = "" }, func(c *api.Call) { c.Size++ }, func(c *api.Call) { c.Zone = "a" },
			func(c *api.Call) { c.Node = "m" }, func(c *api.Call) { c.Node = "" }, func(c *api.Call) { c.Source = "s" },
			func(c *api.Call) { c.Verb = api.Publish + api.Unpublish - c.Verb },
			func(c *api.Call) { *c = api.Call{} },
			func(c *api.Call) { *c = api.Call{Target: "v"} },
		} {
			publishN, unpublishN := publish("n", 7), unpublish("n", 7)
			change(&publishN)
			change(&unpublishN)
			behind(t, "another Publish", nothing, publishN, r, aVolume(), aClaim(), aPod(), in)
			behind(t, "another Unpublish", nothing, unpublishN, r, aVolume(), aClaim(), aPod(), out)
		}
		behind(t, "its volume is not there", nothing, publish("n", 7), r, aClaim(), aPod(), in)
		behind(t, "it is not there", nothing, publish("n", 7), r, aVolume(), aClaim(), aPod())
		behind(t, "it is not wanted by now", nothing, publish("n", 7), r, aVolume(), aClaim(), in)
		behind(t, "it is Attached by now", nothing, publish("n", 7), r, aVolume(), aClaim(), aPod(), phase(in, api.Attached))
		behind(t, "it is Detaching by now", nothing, publish("n", 7), r, aVolume(), aClaim(), aPod(), out)
		behind(t, "it is Attaching by now", nothing, unpublish("n", 7), r, aVolume(), aClaim(), aPod(), in)
		behind(t, "it has a newer number by now", nothing, publish("n", 7), r, aVolume(), aClaim(), aPod(), num(in, 9))
		behind(t, "a Write is next", nothing, api.Call{Target: "v"}, r, aVolume(), aClaim(), in)
		behind(t, "nothing is next", nothing, api.Call{Target: "v"}, r, aVolume(), aClaim(), aPod(), at("n", api.Attached, 0))
		behind(t, "nothing is next", nothing, publish("n", 0), r, aVolume(), aClaim(), aPod(), at("n", api.Attached, 0))
		behind(t, "of nothing", nothing, publish("n", 7), r)
	}
}

// P1: of nothing, and of objects that are not right, there is an answer.
func TestWrongInputs(t *testing.T) {
	junk := list(
		api.Object{}, api.Object{Kind: 255, Name: "\xff", Phase: 255}, api.Object{Kind: api.Volume}, api.Object{Kind: api.Volume, Name: "\xff", Phase: api.Bound},
		api.Object{Kind: api.Volume, Name: "v", Mode: 255, Phase: api.Bound, Num: math.MaxUint64}, api.Object{Kind: api.Claim, Phase: api.Bound},
		api.Object{Kind: api.Claim, Name: "\xff", Phase: api.Bound, Volume: "\xff"}, api.Object{Kind: api.Pod, Node: "\x00"}, api.Object{Kind: api.Pod, Name: "p", Claim: "\xff", Node: "\xff"},
		api.Object{Kind: api.Attach}, api.Object{Kind: api.Attach, Name: "\x00", Volume: "\xff", Phase: 255}, api.Object{Kind: api.Attach, Volume: "v", Node: strings.Repeat("n", 1000)},
	)
	for _, name := range []string{"", "v", "\xff", "\x00", strings.Repeat("n", 5000)} {
		for _, all := range [][]api.Object{nil, {}, junk} {
			attach.Wanted(all, name)
			attach.Attachments(all, name)
			attach.Volume(all, math.MaxUint64, name)
			for verb := range 256 {
				attach.After(all, 0, api.Call{Verb: api.Verb(verb), Target: name, Size: math.MinInt64}, api.Result{Err: -1, Size: math.MinInt64})
			}
		}
		if len(attach.Wanted(nil, name)) != 0 || len(attach.Attachments(nil, name)) != 0 {
			t.Errorf("of nothing %q is wanted, or attached", name)
		}
		if attach.Volume(nil, 5, name) != nothing || attach.After(nil, 5, publish("n", 7), api.Result{}) != nothing || attach.After(nil, 5, api.Call{Target: name}, api.Result{}) != nothing {
			t.Errorf("of nothing something is done: %q", name)
		}
	}
}
