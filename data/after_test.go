package data_test

import (
	"math"
	"strings"
	"testing"

	"wharfinger/api"
	"wharfinger/data"
)

var (
	claimC = api.Key{Kind: api.Claim, Name: "c"}
	snapS  = api.Key{Kind: api.Snapshot, Name: "s"}
)

// behind holds After, at version 19, to what it is to tell.
func behind(t *testing.T, what string, want api.Act, k api.Key, c api.Call, r api.Result, all ...api.Object) {
	t.Helper()
	tells(t, what, want, all, func(all []api.Object) api.Act { return data.After(all, 19, k, c, r) })
}

func failed(e api.Errno) api.Result { return api.Result{Err: e} }

// allErrors are all but OK, and numbers that are none.
var allErrors = []api.Errno{
	api.ErrNil, api.ErrForm, api.ErrRange, api.ErrNone, api.ErrConflict, api.ErrFull, api.ErrHeld, api.ErrStale, api.ErrBusy, api.ErrSpace, api.ErrSmall, api.ErrLost,
	4, 14, -1, math.MinInt, math.MaxInt,
}

// aGrowing is a volume that is to be of 20, by expand(20, 9).
func aGrowing() api.Object { return num(size(aVolume(), 20), 9) }

// P14.4
func TestAfterExpand(t *testing.T) {
	wants := size(aClaim(), 20)
	behind(t, "it has grown", write(got(size(aVolume(), 20), 20)), claimC, expand(20, 9), api.Result{Size: 20}, wants, aGrowing())
	behind(t, "by more", write(got(size(aVolume(), 20), 24)), claimC, expand(20, 9), api.Result{Size: 24, Zone: "z", Tag: 5}, wants, aGrowing())
	for _, e := range allErrors {
		want := nothing
		if e == api.ErrStale {
			want = write(num(aGrowing(), 20))
		}
		behind(t, "it has not", want, claimC, expand(20, 9), failed(e), wants, aGrowing())
		behind(t, "with an error nothing else is asked", want, claimC, expand(20, 9), api.Result{Err: e, Size: 20, Zone: "z", Tag: 5}, wants, aGrowing())
	}
}

// P14.4
func TestAfterCut(t *testing.T) {
	ready := with(aCutting(), func(o *api.Object) { o.Phase, o.Tag, o.Got, o.Num = api.Ready, 5, 12, 0 })
	behind(t, "it is cut", write(ready), snapS, cutS, api.Result{Size: 12, Tag: 5, Zone: "z"}, aCutting(), aClaim(), aVolume())
	behind(t, "all else is gone", write(ready), snapS, cutS, api.Result{Size: 12, Tag: 5}, aCutting())
	ready.Tag = 0
	behind(t, "with nothing in it", write(ready), snapS, cutS, api.Result{Size: 12}, with(aCutting(), func(o *api.Object) { o.Got, o.Tag = 3, 4 }))
	for _, e := range allErrors {
		want := nothing
		switch e {
		case api.ErrStale:
			want = write(num(aCutting(), 20))
		case api.ErrNone:
			want = write(with(aCutting(), func(o *api.Object) { o.Phase, o.Volume = api.Pending, "" }))
		}
		behind(t, "it is not", want, snapS, cutS, failed(e), aCutting(), aClaim(), aVolume())
		behind(t, "with an error nothing else is asked", want, snapS, cutS, api.Result{Err: e, Size: 12, Zone: "z", Tag: 5}, aCutting())
	}
}

// P14.4
func TestAfterDrop(t *testing.T) {
	kept := with(anErasing(), func(o *api.Object) { o.Deleting = false })
	behind(t, "it is gone", remove(anErasing()), snapS, dropS, api.Result{}, anErasing(), aClaim(), aVolume())
	behind(t, "it is gone", remove(kept), snapS, dropS, api.Result{Size: 5, Tag: 3}, kept, aCreating())
	for _, e := range allErrors {
		want := nothing
		if e == api.ErrStale {
			want = write(num(anErasing(), 20))
		}
		behind(t, "it is not", want, snapS, dropS, failed(e), anErasing())
	}
}

// P14.4, P5: behind the last number comes 0.
func TestAfterNumbersGoRound(t *testing.T) {
	stale := failed(api.ErrStale)
	for _, c := range []struct {
		k    api.Key
		call api.Call
		o    api.Object
		all  []api.Object
	}{
		{claimC, expand(20, 9), aGrowing(), list(aGrowing(), size(aClaim(), 20))},
		{snapS, cutS, aCutting(), list(aCutting())},
		{snapS, dropS, anErasing(), list(anErasing())},
	} {
		if a := data.After(c.all, math.MaxUint64, c.k, c.call, stale); a != write(num(c.o, 0)) {
			t.Errorf("%+v", a)
		}
	}
}

// P14.4: behind what is not what is asked next, nothing.
func TestAfterOfOther(t *testing.T) {
	wants := size(aClaim(), 20)
	for _, e := range append(allErrors, api.OK) {
		r := api.Result{Err: e, Size: 20, Tag: 3}
		for _, change := range []func(c *api.Call){
			func(c *api.Call) { c.Verb = api.Erase }, func(c *api.Call) { c.Verb = 0 }, func(c *api.Call) { c.Num++ }, func(c *api.Call) { c.Num-- },
			func(c *api.Call) { c.Target = "w" }, func(c *api.Call) { c.Target = "" }, func(c *api.Call) { c.Size++ }, func(c *api.Call) { c.Zone = "a" },
			func(c *api.Call) { c.Node = "n" }, func(c *api.Call) { c.Source += "x" }, func(c *api.Call) { *c = api.Call{} },
			func(c *api.Call) { *c = api.Call{Target: "v"} },
		} {
			expand, cut, drop := expand(20, 9), cutS, dropS
			change(&expand)
			change(&cut)
			change(&drop)
			behind(t, "another Expand", nothing, claimC, expand, r, wants, aGrowing())
			behind(t, "another Cut", nothing, snapS, cut, r, aCutting(), aClaim(), aVolume())
			behind(t, "another Drop", nothing, snapS, drop, r, anErasing())
		}
		behind(t, "its volume is gone", nothing, claimC, expand(20, 9), r, wants)
		behind(t, "it is gone", nothing, claimC, expand(20, 9), r, aGrowing())
		behind(t, "it is enough by now", nothing, claimC, expand(20, 9), r, wants, got(aGrowing(), 20))
		behind(t, "more is asked by now", nothing, claimC, expand(20, 9), r, size(aClaim(), 21), aGrowing())
		behind(t, "the volume is given up by now", nothing, claimC, expand(20, 9), r, wants, phase(aGrowing(), api.Released))
		behind(t, "it is gone", nothing, snapS, cutS, r, aClaim(), aVolume())
		behind(t, "it is Deleting by now", nothing, snapS, cutS, r, deleting(aCutting()), aClaim(), aVolume())
		behind(t, "it is Pending by now", nothing, snapS, cutS, r, phase(aCutting(), api.Pending), aClaim(), aVolume())
		behind(t, "it is Ready by now", nothing, snapS, cutS, r, phase(aCutting(), api.Ready), aClaim(), aVolume())
		behind(t, "it was born again", nothing, snapS, cutS, r, with(aCutting(), func(o *api.Object) { o.Born = 30 }))
		behind(t, "a volume is made of it by now", nothing, snapS, dropS, r, anErasing(), aCreating())
		behind(t, "it does nothing", nothing, snapS, api.Call{}, r, aReady())
		behind(t, "it does nothing", nothing, claimC, api.Call{}, r, aClaim(), aVolume())
		behind(t, "of nothing", nothing, claimC, expand(20, 9), r)
		behind(t, "of nothing", nothing, snapS, dropS, r)
		behind(t, "of the volume's key", nothing, api.Key{Kind: api.Volume, Name: "v"}, expand(20, 9), r, wants, aGrowing())
		for kind := range 9 {
			k := api.Key{Kind: api.Kind(kind), Name: "c"}
			if k.Kind != api.Claim {
				behind(t, "neither a claim nor a snapshot", nothing, k, expand(20, 9), r, wants, aGrowing())
			}
			k.Name = "s"
			if k.Kind != api.Snapshot {
				behind(t, "neither a claim nor a snapshot", nothing, k, dropS, r, anErasing())
				behind(t, "neither a claim nor a snapshot", nothing, k, cutS, r, aCutting(), with(aCutting(), func(o *api.Object) { o.Kind, o.Name = k.Kind, "s" }))
			}
		}
	}
}

// P1: of nothing, and of objects that are not right, there is an answer.
func TestWrongInputs(t *testing.T) {
	junk := list(
		api.Object{}, api.Object{Kind: 255, Name: "\xff", Phase: 255}, api.Object{Kind: api.Claim, Phase: api.Bound}, api.Object{Kind: api.Volume, Phase: api.Bound, Size: math.MinInt64, Got: math.MinInt64},
		api.Object{Kind: api.Claim, Name: "c", Size: math.MaxInt64, Phase: api.Bound, Volume: "\xff"}, api.Object{Kind: api.Volume, Name: "\xff", Phase: api.Bound, Got: math.MinInt64},
		api.Object{Kind: api.Claim, Name: "\xff", Phase: api.Creating, Source: "\x00"}, api.Object{Kind: api.Snapshot}, api.Object{Kind: api.Snapshot, Name: "\xff", Phase: 255, Source: "c"},
		api.Object{Kind: api.Snapshot, Name: "c", Phase: api.Pending, Source: ""}, api.Object{Kind: api.Snapshot, Name: "\x00", Phase: api.Cutting, Deleting: true, Num: math.MaxUint64},
	)
	for _, name := range []string{"", "c", "s", "\xff", "\x00", strings.Repeat("n", 5000)} {
		for _, all := range [][]api.Object{nil, {}, junk} {
			data.Claim(all, math.MaxUint64, name)
			data.Snapshot(all, math.MaxUint64, name)
			for kind := range 256 {
				k := api.Key{Kind: api.Kind(kind), Name: name}
				for _, c := range []api.Call{{}, {Verb: api.Verb(kind), Target: name}, data.Claim(all, 0, name).Call, data.Snapshot(all, 0, name).Call} {
					data.After(all, 0, k, c, api.Result{Size: math.MinInt64})
					data.After(all, 0, k, c, failed(api.Errno(kind)))
				}
			}
		}
		if data.Claim(nil, 5, name) != nothing || data.Snapshot(nil, 5, name) != nothing || data.After(nil, 5, claimC, api.Call{}, api.Result{}) != nothing {
			t.Errorf("of nothing something is done: %q", name)
		}
	}
	for _, o := range junk {
		data.Handle(o)
	}
}
