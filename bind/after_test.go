package bind_test

import (
	"math"
	"strings"
	"testing"

	"wharfinger/api"
	"wharfinger/bind"
)

var (
	claimC  = api.Key{Kind: api.Claim, Name: "c"}
	volumeV = api.Key{Kind: api.Volume, Name: "v"}
)

// behind holds After, at version 19, to what it is to tell.
func behind(t *testing.T, what string, want api.Act, k api.Key, c api.Call, r api.Result, all ...api.Object) {
	t.Helper()
	tells(t, what, want, all, func(all []api.Object) api.Act { return bind.After(all, 19, k, c, r) })
}

func failed(e api.Errno) api.Result { return api.Result{Err: e} }

// aCreating is a claim whose volume is being made by createC; aCalledOff one that is erased by eraseC; anErasing a volume that is by eraseV.
func aCreating() api.Object {
	return with(aClaim(), func(o *api.Object) { o.Phase, o.Zone, o.Node, o.Num = api.Creating, "a", "n", 9 })
}

func aCalledOff() api.Object {
	return num(deleting(aClaim()), 8)
}

func anErasing() api.Object {
	return num(phase(boundVolume(), api.Erasing), 7)
}

var (
	createC = api.Call{Verb: api.Create, Target: "pvc/c#3", Num: 9, Size: 10, Zone: "a"}
	eraseC  = api.Call{Verb: api.Erase, Target: "pvc/c#3", Num: 8}
	eraseV  = api.Call{Verb: api.Erase, Target: "v", Num: 7}
)

// allErrors are all but OK, and numbers that are none.
var allErrors = []api.Errno{
	api.ErrNil, api.ErrForm, api.ErrRange, api.ErrNone, api.ErrConflict, api.ErrFull, api.ErrHeld, api.ErrStale, api.ErrBusy, api.ErrSpace, api.ErrSmall, api.ErrLost,
	4, 14, -1, math.MinInt, math.MaxInt,
}

// P12.4: a volume that was made.
func TestAfterCreate(t *testing.T) {
	made := api.Object{Kind: api.Volume, Name: "pvc/c#3", Hold: true, Class: "f", Size: 10, Got: 12, Mode: api.Single, Zone: "z", Claim: "c#3", Phase: api.Bound}
	r := api.Result{Size: 12, Zone: "z", Tag: 99}
	behind(t, "made", write(made), claimC, createC, r, aCreating(), aClass(), aNode())
	behind(t, "its class is gone", write(made), claimC, createC, r, aCreating())
	kept := with(aClass(), func(o *api.Object) { o.Keep = true })
	behind(t, "to be kept", write(with(made, func(o *api.Object) { o.Keep = true })), claimC, createC, r, aCreating(), kept)
	behind(t, "another class is kept", write(made), claimC, createC, r, aCreating(), with(kept, func(o *api.Object) { o.Name = "g" }))
	behind(t, "its class waits", write(made), claimC, createC, r, aCreating(), with(aClass(), func(o *api.Object) { o.Wait = true }))
	many := with(aCreating(), func(o *api.Object) { o.Mode = api.Many })
	behind(t, "of many", write(with(made, func(o *api.Object) { o.Mode = api.Many })), claimC, createC, r, many)
	behind(t, "what is left out is by default", write(with(made, func(o *api.Object) { o.Got = 10 })), claimC, createC, api.Result{Zone: "z"}, aCreating())
	of := with(aCreating(), func(o *api.Object) { o.Source = "s" })
	call := createC
	call.Source = "snap/s#7"
	behind(t, "of a snapshot", write(made), claimC, call, r, of, aSnap())
	behind(t, "of a snapshot that is gone", nothing, claimC, call, r, of)
	behind(t, "of another one of its name", nothing, claimC, call, r, of, with(aSnap(), func(o *api.Object) { o.Born = 6 }))
}

// P12.4: one that was not, or of which nobody knows.
func TestAfterCreateFailed(t *testing.T) {
	waits := with(aClass(), func(o *api.Object) { o.Wait = true })
	back := with(aCreating(), func(o *api.Object) { o.Phase, o.Zone, o.Num = api.Pending, "", 20 })
	for _, e := range allErrors {
		without := write(back)
		waiting := write(with(back, func(o *api.Object) { o.Node = "" }))
		switch e {
		case api.ErrLost:
			without, waiting = nothing, nothing
		case api.ErrStale:
			without = write(num(aCreating(), 20))
			waiting = without
		}
		behind(t, "its class is there", without, claimC, createC, failed(e), aCreating(), aClass(), aNode())
		behind(t, "no class is", without, claimC, createC, failed(e), aCreating())
		behind(t, "its class waits", waiting, claimC, createC, failed(e), aCreating(), waits, aNode())
		behind(t, "another class waits", without, claimC, createC, failed(e), aCreating(), with(waits, func(o *api.Object) { o.Name = "g" }))
		behind(t, "with an error nothing else is asked", without, claimC, createC, api.Result{Err: e, Size: 5, Zone: "z", Tag: 1}, aCreating())
	}
}

// P12.4: what was erased goes.
func TestAfterErase(t *testing.T) {
	behind(t, "a claim", remove(aCalledOff()), claimC, eraseC, api.Result{}, aCalledOff(), aClass())
	behind(t, "a volume", remove(anErasing()), volumeV, eraseV, api.Result{}, anErasing())
	for _, e := range allErrors {
		ofClaim, ofVolume := nothing, nothing
		if e == api.ErrStale {
			ofClaim, ofVolume = write(num(aCalledOff(), 20)), write(num(anErasing(), 20))
		}
		behind(t, "a claim", ofClaim, claimC, eraseC, failed(e), aCalledOff(), aClass())
		behind(t, "a volume", ofVolume, volumeV, eraseV, failed(e), anErasing())
	}
}

// P12.4: behind what is not what is asked next, nothing.
func TestAfterOfOther(t *testing.T) {
	for _, e := range append(allErrors, api.OK) {
		r := api.Result{Err: e, Size: 12, Zone: "a"}
		for _, change := range []func(c *api.Call){
			func(c *api.Call) { c.Verb = api.Drop }, func(c *api.Call) { c.Verb = 0 }, func(c *api.Call) { c.Num++ }, func(c *api.Call) { c.Num-- },
			func(c *api.Call) { c.Target = "pvc/c#4" }, func(c *api.Call) { c.Target = "" }, func(c *api.Call) { c.Size++ },
			func(c *api.Call) { c.Zone = "b" }, func(c *api.Call) { c.Node = "n" }, func(c *api.Call) { c.Source = "s" },
			func(c *api.Call) { *c = api.Call{} },
		} {
			create, erase, eraseOfV := createC, eraseC, eraseV
			change(&create)
			change(&erase)
			change(&eraseOfV)
			behind(t, "another Create", nothing, claimC, create, r, aCreating(), aClass())
			behind(t, "another Erase", nothing, claimC, erase, r, aCalledOff(), aClass())
			behind(t, "another Erase", nothing, volumeV, eraseOfV, r, anErasing())
		}
		behind(t, "not there", nothing, claimC, createC, r, aClass())
		behind(t, "not there", nothing, volumeV, eraseV, r, aCreating())
		behind(t, "it has its volume by now", nothing, claimC, createC, r, aCreating(), boundVolume())
		behind(t, "it is Pending by now", nothing, claimC, createC, r, phase(aCreating(), api.Pending), aClass())
		behind(t, "it is Deleting by now", nothing, claimC, createC, r, deleting(aCreating()), aClass())
		behind(t, "it was born again", nothing, claimC, createC, r, with(aCreating(), func(o *api.Object) { o.Born = 30 }))
		behind(t, "it is at a node by now", nothing, volumeV, eraseV, r, anErasing(), anAttach())
		behind(t, "it does nothing", nothing, claimC, api.Call{}, r, boundClaim())
		behind(t, "it does nothing", nothing, volumeV, api.Call{}, r, boundVolume(), boundClaim())
		for kind := range 9 {
			k := api.Key{Kind: api.Kind(kind), Name: "c"}
			o := with(aCreating(), func(o *api.Object) { o.Kind = k.Kind })
			if k.Kind != api.Claim {
				behind(t, "neither a claim nor a volume", nothing, k, createC, r, o)
				behind(t, "neither a claim nor a volume", nothing, k, createC, r, o, aCreating())
				behind(t, "neither a claim nor a volume", nothing, k, eraseC, r, aCalledOff(), with(anErasing(), func(o *api.Object) { o.Name = "d" }))
			}
		}
	}
}

// P1: of nothing, and of objects that are not right, there is an answer.
func TestWrongInputs(t *testing.T) {
	junk := list(
		api.Object{}, api.Object{Kind: 255, Name: "\xff", Phase: 255}, api.Object{Kind: api.Claim}, api.Object{Kind: api.Claim, Name: "c", Size: math.MinInt64, Phase: api.Pending},
		api.Object{Kind: api.Class}, api.Object{Kind: api.Volume}, api.Object{Kind: api.Volume, Got: math.MinInt64, Phase: api.Available},
		api.Object{Kind: api.Volume, Name: "\x00", Got: math.MaxInt64, Phase: api.Available, Claim: strings.Repeat("x", 1000)}, api.Object{Kind: api.Node},
	)
	for _, name := range []string{"", "c", "\xff", "\x00", strings.Repeat("n", 5000)} {
		for _, all := range [][]api.Object{nil, {}, junk} {
			bind.Claim(all, 0, name)
			bind.Volume(all, math.MaxUint64, name)
			for kind := range 256 {
				bind.After(all, 0, api.Key{Kind: api.Kind(kind), Name: name}, api.Call{}, api.Result{})
			}
			for _, o := range junk {
				bind.Best(all, o)
				bind.Ref(o)
				bind.Handle(o)
			}
		}
		if bind.Claim(nil, 5, name) != nothing || bind.Volume(nil, 5, name) != nothing || bind.After(nil, 5, claimC, createC, api.Result{}) != nothing {
			t.Errorf("of nothing something is done: %q", name)
		}
	}
	if v, ok := bind.Best(nil, aClaim()); ok || v != (api.Object{}) {
		t.Errorf("of nothing the best is %+v", v)
	}
}
