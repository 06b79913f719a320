package bind_test

import (
	"math"
	"slices"
	"strings"
	"testing"

	"wharfinger/api"
	"wharfinger/bind"
	"wharfinger/object"
)

// The objects of most tests: a class of zone a, a node of zone b, a claim of 10 and a volume of nobody that fits it.
func aClass() api.Object {
	return api.Object{Kind: api.Class, Name: "f", Version: 1, Born: 1, Zone: "a"}
}

func aNode() api.Object {
	return api.Object{Kind: api.Node, Name: "n", Version: 2, Born: 2, Zone: "b"}
}

func aClaim() api.Object {
	return api.Object{Kind: api.Claim, Name: "c", Version: 5, Born: 3, Hold: true, Class: "f", Size: 10, Mode: api.Single, Phase: api.Pending}
}

func aVolume() api.Object {
	return api.Object{Kind: api.Volume, Name: "v", Version: 6, Born: 4, Hold: true, Class: "f", Size: 10, Got: 12, Mode: api.Single, Zone: "a", Phase: api.Available}
}

func aSnap() api.Object {
	return api.Object{Kind: api.Snapshot, Name: "s", Version: 8, Born: 7, Hold: true, Source: "d", Volume: "w", Got: 10, Phase: api.Ready, Tag: 3}
}

func aPod() api.Object {
	return api.Object{Kind: api.Pod, Name: "p", Version: 9, Born: 9, Claim: "c", Node: "n"}
}

func anAttach() api.Object {
	return api.Object{Kind: api.Attach, Name: "v/n", Version: 9, Born: 9, Volume: "v", Node: "n", Phase: api.Attached}
}

// with is an object but for what is said.
func with(o api.Object, change func(o *api.Object)) api.Object {
	change(&o)
	return o
}

func phase(o api.Object, p api.Phase) api.Object {
	o.Phase = p
	return o
}

func deleting(o api.Object) api.Object {
	o.Deleting = true
	return o
}

func num(o api.Object, n uint64) api.Object {
	o.Num = n
	return o
}

// boundClaim and boundVolume belong together.
func boundClaim() api.Object {
	return with(aClaim(), func(o *api.Object) { o.Phase, o.Volume, o.Got, o.Zone = api.Bound, "v", 12, "a" })
}

func boundVolume() api.Object {
	return with(aVolume(), func(o *api.Object) { o.Phase, o.Claim = api.Bound, "c#3" })
}

func write(o api.Object) api.Act  { return api.Act{Do: api.Write, Object: o} }
func remove(o api.Object) api.Act { return api.Act{Do: api.Remove, Object: o} }
func ask(c api.Call) api.Act      { return api.Act{Do: api.Ask, Call: c} }

var nothing = api.Act{}

func list(l ...api.Object) []api.Object { return l }

// tells holds a call to what it is to answer of objects in any order, with what is of one key behind the first one, and to leaving them as they are.
func tells[T comparable](t *testing.T, what string, want T, all []api.Object, answer func(all []api.Object) T) {
	t.Helper()
	backward := slices.Clone(all)
	slices.Reverse(backward)
	var doubled []api.Object
	for _, o := range all {
		doubled = append(doubled, o, api.Object{Kind: o.Kind, Name: o.Name, Deleting: true, Claim: "x", Volume: "v", Phase: api.Available})
	}
	for _, l := range [][]api.Object{all, backward, doubled} {
		roomy := append(slices.Clone(l), api.Object{Name: "behind"})
		got := answer(roomy[:len(l)])
		if got != want {
			t.Errorf("%s: %+v; want %+v", what, got, want)
		}
		if !slices.Equal(roomy[:len(l)], l) || roomy[len(l)].Name != "behind" {
			t.Errorf("%s: what was handed in changes", what)
		}
	}
}

// claims and volumes hold the next act, at version 19, of the claim c, and of the volume v.
func claims(t *testing.T, what string, want api.Act, all ...api.Object) {
	t.Helper()
	tells(t, what, want, all, func(all []api.Object) api.Act { return bind.Claim(all, 19, "c") })
}

func volumes(t *testing.T, what string, want api.Act, all ...api.Object) {
	t.Helper()
	tells(t, what, want, all, func(all []api.Object) api.Act { return bind.Volume(all, 19, "v") })
}

// best holds Best of a claim to a volume's name; empty: none.
func best(t *testing.T, what, want string, claim api.Object, all ...api.Object) {
	t.Helper()
	tells(t, what, want, all, func(all []api.Object) string {
		v, ok := bind.Best(all, claim)
		if !ok && v != (api.Object{}) {
			t.Errorf("%s: none, and %+v", what, v)
		}
		if ok && !slices.Contains(all, v) {
			t.Errorf("%s: %+v is not as it is there", what, v)
		}
		return v.Name
	})
}

// P12.1: at the edge of what may be a name, too.
func TestRef(t *testing.T) {
	for _, c := range []struct {
		name string
		born uint64
		ref  string
	}{
		{"c", 3, "c#3"},
		{"c", 0, "c#0"},
		{"a/b.c#d-1", 10, "a/b.c#d-1#10"},
		{"c", math.MaxUint64, "c#18446744073709551615"},
		{strings.Repeat("n", 34), 9, strings.Repeat("n", 34) + "#9"},
		{strings.Repeat("n", 34), 10, ""},
		{strings.Repeat("n", 35), 9, ""},
		{strings.Repeat("n", 40), 0, ""},
		{strings.Repeat("n", 15), math.MaxUint64, strings.Repeat("n", 15) + "#18446744073709551615"},
		{strings.Repeat("n", 16), math.MaxUint64, ""},
		{strings.Repeat("n", 5000), 1, ""},
		{"", 7, "#7"},
		{"\xff", 7, "\xff#7"},
	} {
		handle := "pvc/" + c.ref
		if c.ref == "" {
			handle = ""
		}
		o := with(aClaim(), func(o *api.Object) { o.Name, o.Born, o.Version = c.name, c.born, 77 })
		if r, h := bind.Ref(o), bind.Handle(o); r != c.ref || h != handle {
			t.Errorf("of %q, born %d: %q, %q; want %q, %q", c.name, c.born, r, h, c.ref, handle)
		}
		if c.ref != "" && object.Name(c.name) && !object.Name(handle) {
			t.Errorf("%q is no name", handle)
		}
	}
}

// P12.1: what a volume must be, for a claim to take it.
func TestBestFits(t *testing.T) {
	best(t, "one that fits", "v", aClaim(), aVolume())
	best(t, "of nothing", "", aClaim())
	best(t, "of no volume", "", aClaim(), aClass(), aNode(), aClaim(), with(aSnap(), func(o *api.Object) { o.Name = "v" }))
	for what, change := range map[string]func(o *api.Object){
		"Bound":     func(o *api.Object) { o.Phase = api.Bound },
		"Released":  func(o *api.Object) { o.Phase = api.Released },
		"Erasing":   func(o *api.Object) { o.Phase = api.Erasing },
		"NoPhase":   func(o *api.Object) { o.Phase = api.NoPhase },
		"Deleting":  func(o *api.Object) { o.Deleting = true },
		"class":     func(o *api.Object) { o.Class = "g" },
		"no class":  func(o *api.Object) { o.Class = "" },
		"mode":      func(o *api.Object) { o.Mode = api.Many },
		"no mode":   func(o *api.Object) { o.Mode = api.NoMode },
		"too small": func(o *api.Object) { o.Got, o.Size = 9, 99 },
		"another":   func(o *api.Object) { o.Kind = api.Snapshot },
	} {
		best(t, what, "", aClaim(), with(aVolume(), change))
	}
	for what, change := range map[string]func(o *api.Object){
		"just enough": func(o *api.Object) { o.Got, o.Size = 10, 1 },
		"much":        func(o *api.Object) { o.Got = api.MaxSize },
		"kept":        func(o *api.Object) { o.Keep = true },
		"zone":        func(o *api.Object) { o.Zone = "z" },
		"claimed":     func(o *api.Object) { o.Claim = "x#1" },
		"num":         func(o *api.Object) { o.Num, o.Hold = 7, false },
	} {
		best(t, what, "v", aClaim(), with(aVolume(), change))
	}
	best(t, "of many", "v", with(aClaim(), func(o *api.Object) { o.Mode = api.Many }), with(aVolume(), func(o *api.Object) { o.Mode = api.Many }))
	best(t, "whatever the claim's phase", "v", deleting(boundClaim()), aVolume())
}

// P12.1: of a claim with a Node that is there, only those of that node's zone.
func TestBestAtNode(t *testing.T) {
	atNode := with(aClaim(), func(o *api.Object) { o.Node = "n" })
	inB := with(aVolume(), func(o *api.Object) { o.Name, o.Zone, o.Got = "w", "b", 90 })
	best(t, "of the node's zone", "w", atNode, aNode(), aVolume(), inB)
	best(t, "of another zone", "", atNode, aNode(), aVolume())
	best(t, "of a node that is not there", "v", atNode, aVolume(), inB)
	best(t, "of another node", "v", atNode, with(aNode(), func(o *api.Object) { o.Name = "m" }), aVolume(), inB)
	best(t, "of no node", "v", aClaim(), aNode(), aVolume(), inB)
	best(t, "of no node, with one without a name", "v", aClaim(), with(aNode(), func(o *api.Object) { o.Name = "" }), aVolume(), inB)
	best(t, "of a node that is Deleting", "w", atNode, deleting(aNode()), aVolume(), inB)
	best(t, "the claim's own Zone is not asked", "v", with(aClaim(), func(o *api.Object) { o.Zone = "b" }), aVolume())
}

// P12.1: the least Got, of the same the least Name.
func TestBestOfSome(t *testing.T) {
	v := func(name string, got int64) api.Object {
		return with(aVolume(), func(o *api.Object) { o.Name, o.Got = name, got })
	}
	best(t, "the least Got", "c", aClaim(), v("a", 13), v("b", 12), v("c", 11), v("d", 9))
	best(t, "of the same the least Name", "b", aClaim(), v("d", 11), v("b", 11), v("c", 11), v("a", 12))
	best(t, "names by bytes", "v10", aClaim(), v("v9", 11), v("v10", 11), v("va", 11))
	best(t, "a beginning stands ahead", "v", aClaim(), v("v.", 11), v("v", 11), v("v#", 11))
	best(t, "the Size is not asked", "a", aClaim(), with(v("a", 11), func(o *api.Object) { o.Size = 99 }), v("b", 12))
	best(t, "one that may not be", "b", aClaim(), deleting(v("a", 10)), v("b", 11))
	twice := list(with(aVolume(), func(o *api.Object) { o.Phase = api.Bound }), aVolume(), v("w", 30), v("w", 10))
	if o, ok := bind.Best(twice, aClaim()); !ok || o != v("w", 30) {
		t.Errorf("of one key the first one counts: %+v", o)
	}
}

// P12.2: of a claim that is not there, or whose volume can't be named, nothing.
func TestClaimThere(t *testing.T) {
	claims(t, "of nothing", nothing)
	claims(t, "of other names", nothing, with(deleting(aClaim()), func(o *api.Object) { o.Name = "cc" }))
	for kind := range 9 {
		if api.Kind(kind) != api.Claim {
			claims(t, "of another kind", nothing, with(deleting(aClaim()), func(o *api.Object) { o.Kind = api.Kind(kind) }))
		}
	}
	for length, handled := range map[int]bool{34: true, 35: false, 40: false} {
		name := strings.Repeat("n", length)
		for _, o := range list(deleting(aClaim()), deleting(boundClaim())) {
			o.Name, o.Born = name, 5
			want := nothing
			if handled {
				want = remove(o)
			}
			if a := bind.Claim(list(o), 19, name); a != want {
				t.Errorf("%s: %+v", name, a)
			}
		}
	}
	if a := bind.Claim(list(aClaim(), deleting(aClaim())), 19, "c"); a != nothing {
		t.Errorf("of one key the first one counts: %+v", a)
	}
	if a := bind.Claim(list(deleting(aClaim()), aClaim()), 19, "c"); a != remove(deleting(aClaim())) {
		t.Errorf("of one key the first one counts: %+v", a)
	}
}

// P12.2: a claim that is Bound goes when it is Deleting, no pod has it, and its volume is at no node.
func TestClaimBound(t *testing.T) {
	gone := deleting(boundClaim())
	claims(t, "not Deleting", nothing, boundClaim(), boundVolume(), aClass())
	claims(t, "not Deleting, its volume gone", nothing, boundClaim(), aClass())
	claims(t, "Deleting", remove(gone), gone, boundVolume())
	claims(t, "Deleting, its volume gone", remove(gone), gone)
	claims(t, "a pod has it", nothing, gone, boundVolume(), aPod())
	claims(t, "a pod without Node", nothing, gone, with(aPod(), func(o *api.Object) { o.Node = "" }))
	claims(t, "a pod that is Deleting", nothing, gone, deleting(aPod()))
	claims(t, "one of some pods", nothing, gone, with(aPod(), func(o *api.Object) { o.Name, o.Claim = "o", "d" }), aPod())
	claims(t, "a pod of another claim", remove(gone), gone, with(aPod(), func(o *api.Object) { o.Claim = "d" }))
	claims(t, "a pod of its own name", remove(gone), gone, with(aPod(), func(o *api.Object) { o.Name, o.Claim = "c", "d" }))
	claims(t, "its volume is at a node", nothing, gone, boundVolume(), anAttach())
	for _, p := range []api.Phase{api.NoPhase, api.Attaching, api.Detaching} {
		claims(t, "its volume is at a node, nearly", nothing, gone, phase(anAttach(), p))
	}
	claims(t, "another volume is at a node", remove(gone), gone, with(anAttach(), func(o *api.Object) { o.Name, o.Volume = "w/n", "w" }))
	claims(t, "something else has its volume", remove(gone), gone, phase(with(aSnap(), func(o *api.Object) { o.Volume = "v" }), api.Cutting))
	claims(t, "Num is not asked", remove(num(gone, 7)), num(gone, 7))
}

// P12.2: a claim whose volume is there takes it, Deleting or not.
func TestClaimHasVolume(t *testing.T) {
	pending := with(aClaim(), func(o *api.Object) { o.Num, o.Zone, o.Node, o.Got, o.Source = 9, "q", "n", 1, "s" })
	for _, p := range []api.Phase{api.Pending, api.Creating, api.NoPhase, api.Released} {
		for _, c := range list(phase(pending, p), phase(deleting(pending), p), phase(num(deleting(pending), 0), p)) {
			want := write(with(c, func(o *api.Object) { o.Phase, o.Volume, o.Got, o.Zone, o.Num = api.Bound, "v", 12, "a", 0 }))
			claims(t, "its volume is there", want, c, boundVolume())
			claims(t, "and one that fits better", want, c, aClass(), boundVolume(), with(aVolume(), func(o *api.Object) { o.Name, o.Got = "a", 10 }))
			for _, q := range []api.Phase{api.Available, api.Released, api.Erasing} {
				claims(t, "of any phase", want, c, phase(boundVolume(), q))
			}
		}
	}
	named := func(name string) api.Object {
		return with(boundVolume(), func(o *api.Object) { o.Name, o.Got = name, 200-int64(name[0]) })
	}
	first := with(aClaim(), func(o *api.Object) { o.Phase, o.Volume, o.Got, o.Zone = api.Bound, "k", 200-'k', "a" })
	claims(t, "the first one by its name", write(first), aClaim(), named("m"), named("k"), named("l"), with(named("a"), func(o *api.Object) { o.Claim = "c#4" }))
	for _, ref := range []string{"", "c", "c#", "c#30", "c#03", "cc#3", "pvc/c#3", "c#5"} {
		claims(t, "not its volume", nothing, aClaim(), with(boundVolume(), func(o *api.Object) { o.Claim = ref }))
	}
	claims(t, "no volume", nothing, aClaim(), with(boundVolume(), func(o *api.Object) { o.Kind = api.Snapshot }))
}

// P12.2: a claim that is given up: what was asked for it must be gone at the driver ahead of it.
func TestClaimDeleting(t *testing.T) {
	gone := deleting(aClaim())
	claims(t, "nothing was asked", remove(gone), gone, aClass())
	claims(t, "though one would fit", remove(gone), gone, aClass(), aVolume())
	claims(t, "a pod has it", remove(gone), gone, aPod())
	creating := with(gone, func(o *api.Object) { o.Phase, o.Zone, o.Num = api.Creating, "a", 9 })
	claims(t, "Creating", write(num(phase(creating, api.Pending), 20)), creating, aClass())
	claims(t, "Creating, Num 0", remove(num(creating, 0)), num(creating, 0), aClass())
	pending := num(phase(creating, api.Pending), 20)
	claims(t, "Pending", ask(api.Call{Verb: api.Erase, Target: "pvc/c#3", Num: 20}), pending, aClass(), aVolume())
	claims(t, "no phase", ask(api.Call{Verb: api.Erase, Target: "pvc/c#3", Num: 20}), phase(pending, api.NoPhase))
}

// P12.2: a claim that is Creating asks for its volume.
func TestClaimCreating(t *testing.T) {
	creating := with(aClaim(), func(o *api.Object) { o.Phase, o.Zone, o.Num = api.Creating, "z", 9 })
	call := api.Call{Verb: api.Create, Target: "pvc/c#3", Num: 9, Size: 10, Zone: "z"}
	claims(t, "its class, its node are not asked", ask(call), creating)
	claims(t, "nor is one that would fit", ask(call), creating, aClass(), aVolume(), aNode())
	of := with(creating, func(o *api.Object) { o.Source = "s" })
	call.Source = "snap/s#7"
	claims(t, "of a snapshot", ask(call), of, aSnap())
	for _, p := range []api.Phase{api.Pending, api.Cutting, api.Erasing} {
		claims(t, "of a snapshot, be it as it may", ask(call), of, deleting(phase(aSnap(), p)))
	}
	claims(t, "of a great snapshot", ask(call), of, with(aSnap(), func(o *api.Object) { o.Got = 11 }))
	claims(t, "of one that is not there", nothing, of, with(aSnap(), func(o *api.Object) { o.Name = "r" }))
	claims(t, "of one that is none", nothing, of, with(aVolume(), func(o *api.Object) { o.Name, o.Mode = "s", api.Many }))
}

// P12.2: a claim that waits takes a volume of nobody, and then that one is written, not the claim.
func TestClaimTakesBest(t *testing.T) {
	want := write(boundVolume())
	claims(t, "one that fits", want, aClaim(), aVolume())
	kept := func(o *api.Object) { o.Keep, o.Num, o.Size = true, 7, 3 }
	claims(t, "with all else that it has", write(with(boundVolume(), kept)), aClaim(), with(aVolume(), kept))
	another := with(aVolume(), func(o *api.Object) { o.Claim = "y#1" })
	claims(t, "though it names another claim", want, aClaim(), another)
	claims(t, "its class is not asked", want, aClaim(), with(aClass(), func(o *api.Object) { o.Wait = true }), aVolume())
	claims(t, "nor its source", want, with(aClaim(), func(o *api.Object) { o.Source = "s" }), aVolume())
	claims(t, "nor its number", want, num(aClaim(), 7), aVolume())
	claims(t, "the best", want, aClaim(), aVolume(), with(aVolume(), func(o *api.Object) { o.Name, o.Got = "a", 13 }))
	claims(t, "at its node", want, with(aClaim(), func(o *api.Object) { o.Node = "n" }), with(aNode(), func(o *api.Object) { o.Zone = "a" }), aVolume(),
		with(aVolume(), func(o *api.Object) { o.Name, o.Got, o.Zone = "a", 10, "b" }))
	for _, p := range []api.Phase{api.NoPhase, api.Available, api.Ready, 200} {
		claims(t, "of a phase that a claim has not", nothing, phase(aClaim(), p), aClass(), aVolume())
	}
}

// creatingIn is the claim that will have its volume made.
func creatingIn(c api.Object, zone string) api.Act {
	c.Phase, c.Zone, c.Num = api.Creating, zone, 20
	return write(c)
}

// P12.2: where it is made, and what is waited for.
func TestClaimBegins(t *testing.T) {
	class := func(zone string, wait bool) api.Object {
		return with(aClass(), func(o *api.Object) { o.Zone, o.Wait = zone, wait })
	}
	atNode := with(aClaim(), func(o *api.Object) { o.Node = "n" })
	claims(t, "no class", nothing, aClaim(), aNode())
	claims(t, "another class", nothing, aClaim(), with(aClass(), func(o *api.Object) { o.Name = "g" }))
	claims(t, "in the class's zone", creatingIn(aClaim(), "a"), aClaim(), class("a", false))
	claims(t, "and the next number", creatingIn(aClaim(), "a"), num(aClaim(), 15), class("a", false))
	claims(t, "the class is Deleting", creatingIn(aClaim(), "a"), aClaim(), deleting(class("a", false)))
	claims(t, "no zone", nothing, aClaim(), class("", false), aNode())
	claims(t, "the claim's Zone is not asked", nothing, with(aClaim(), func(o *api.Object) { o.Zone = "q" }), class("", false))
	for _, c := range list(class("a", false), class("", false), class("a", true), class("", true)) {
		claims(t, "in the node's zone", creatingIn(atNode, "b"), atNode, c, aNode())
		claims(t, "in the node's zone, that is Deleting", creatingIn(atNode, "b"), atNode, c, deleting(aNode()))
	}
	claims(t, "the node is not there", creatingIn(atNode, "a"), atNode, class("a", false), with(aNode(), func(o *api.Object) { o.Name = "m" }))
	claims(t, "neither node nor zone", nothing, atNode, class("", false))
	claims(t, "a node without a zone", nothing, atNode, class("a", false), with(aNode(), func(o *api.Object) { o.Zone = "" }))
	claims(t, "waits for a node", nothing, aClaim(), class("a", true), aNode())
	claims(t, "waits for its node to be there", nothing, atNode, class("a", true))
	claims(t, "one that is too small", creatingIn(aClaim(), "a"), aClaim(), class("a", false), with(aVolume(), func(o *api.Object) { o.Got = 9 }))
}

// P12.2: what it is to be made of must be Ready, not Deleting, and not greater than it.
func TestClaimSource(t *testing.T) {
	of := with(aClaim(), func(o *api.Object) { o.Source = "s" })
	claims(t, "Ready", creatingIn(of, "a"), of, aClass(), aSnap())
	claims(t, "small", creatingIn(of, "a"), of, aClass(), with(aSnap(), func(o *api.Object) { o.Got = 1 }))
	claims(t, "too great", nothing, of, aClass(), with(aSnap(), func(o *api.Object) { o.Got = 11 }))
	claims(t, "Deleting", nothing, of, aClass(), deleting(aSnap()))
	for _, p := range []api.Phase{api.NoPhase, api.Pending, api.Cutting, api.Erasing, api.Attached} {
		claims(t, "not Ready", nothing, of, aClass(), phase(aSnap(), p))
	}
	claims(t, "not there", nothing, of, aClass(), with(aSnap(), func(o *api.Object) { o.Name = "r" }))
	claims(t, "none", nothing, of, aClass(), with(aSnap(), func(o *api.Object) { o.Kind = api.Pod }))
	claims(t, "no class", nothing, of, aSnap())
}

// P5, P12: the next number goes round.
func TestNextNumber(t *testing.T) {
	for version, next := range map[uint64]uint64{0: 1, 41: 42, math.MaxUint64 - 1: math.MaxUint64, math.MaxUint64: 0} {
		if a := bind.Claim(list(aClass(), aClaim()), version, "c"); a.Do != api.Write || a.Object.Num != next {
			t.Errorf("behind %d: %+v", version, a)
		}
		if a := bind.Volume(list(deleting(aVolume())), version, "v"); a.Do != api.Write || a.Object.Num != next {
			t.Errorf("behind %d: %+v", version, a)
		}
	}
}

// P12.3
func TestVolumeThere(t *testing.T) {
	volumes(t, "of nothing", nothing)
	volumes(t, "of other names", nothing, with(deleting(aVolume()), func(o *api.Object) { o.Name = "vv" }))
	for kind := range 9 {
		if api.Kind(kind) != api.Volume {
			volumes(t, "of another kind", nothing, with(deleting(aVolume()), func(o *api.Object) { o.Kind = api.Kind(kind) }))
		}
	}
	if a := bind.Volume(list(aVolume(), deleting(aVolume())), 19, "v"); a != nothing {
		t.Errorf("of one key the first one counts: %+v", a)
	}
	for _, p := range []api.Phase{api.NoPhase, api.Pending, api.Released, api.Ready, 255} {
		volumes(t, "Released, or of no phase of a volume", nothing, phase(boundVolume(), p))
		volumes(t, "Released, or of no phase of a volume", nothing, deleting(phase(boundVolume(), p)))
	}
}

// P12.3, P12.6: of a volume of nobody.
func TestVolumeAvailable(t *testing.T) {
	kept := with(aVolume(), func(o *api.Object) { o.Keep = true })
	volumes(t, "not Deleting", nothing, aVolume(), aClaim())
	volumes(t, "kept", nothing, kept)
	volumes(t, "kept, and Deleting", nothing, deleting(kept))
	volumes(t, "Deleting", write(num(phase(deleting(aVolume()), api.Erasing), 20)), deleting(aVolume()))
	volumes(t, "Deleting, at a node", write(num(phase(deleting(aVolume()), api.Erasing), 20)), num(deleting(aVolume()), 3), anAttach())
}

// P12.3, P12.6: a volume whose claim is gone is given up, or kept.
func TestVolumeBound(t *testing.T) {
	kept := with(boundVolume(), func(o *api.Object) { o.Keep = true })
	erasing := func(v api.Object) api.Act { return write(num(phase(v, api.Erasing), 20)) }
	for _, v := range list(boundVolume(), deleting(boundVolume()), kept, deleting(kept)) {
		gone := erasing(v)
		if v.Keep {
			gone = write(phase(v, api.Released))
		}
		for _, p := range []api.Phase{api.Pending, api.Creating, api.Bound, api.NoPhase} {
			volumes(t, "its claim is there", nothing, v, phase(aClaim(), p))
			volumes(t, "its claim is there, Deleting", nothing, v, deleting(phase(aClaim(), p)))
		}
		volumes(t, "its claim is gone", gone, v, aClass())
		volumes(t, "another one of its name is there", gone, v, with(boundClaim(), func(o *api.Object) { o.Born = 4 }))
		volumes(t, "another one is there", gone, v, with(boundClaim(), func(o *api.Object) { o.Name = "d" }))
		volumes(t, "a pod of its name and birth", gone, v, with(aPod(), func(o *api.Object) { o.Name, o.Born = "c", 3 }))
		volumes(t, "one of some", nothing, v, with(aClaim(), func(o *api.Object) { o.Name = "b" }), aClaim())
		volumes(t, "at a node", gone, v, anAttach())
	}
	volumes(t, "a number of Released stays", write(num(phase(kept, api.Released), 7)), num(kept, 7))
}

// P12.3: it is erased when it is at no node, and nothing is cut of it.
func TestVolumeErasing(t *testing.T) {
	v := num(phase(boundVolume(), api.Erasing), 9)
	erase := ask(api.Call{Verb: api.Erase, Target: "v", Num: 9})
	cutting := with(phase(aSnap(), api.Cutting), func(o *api.Object) { o.Volume = "v" })
	volumes(t, "of nobody", erase, v)
	volumes(t, "Deleting", erase, deleting(v))
	for _, p := range []api.Phase{api.NoPhase, api.Attaching, api.Attached, api.Detaching} {
		volumes(t, "at a node", nothing, v, phase(anAttach(), p))
	}
	volumes(t, "another one is at a node", erase, v, with(anAttach(), func(o *api.Object) { o.Volume, o.Name = "w", "w/n" }))
	volumes(t, "something else is called so", erase, v, with(anAttach(), func(o *api.Object) { o.Kind, o.Name = api.Pod, "v" }))
	volumes(t, "is cut", nothing, v, cutting)
	volumes(t, "is cut, and that is Deleting", nothing, v, deleting(cutting))
	volumes(t, "one of some", nothing, v, with(cutting, func(o *api.Object) { o.Name, o.Volume = "r", "w" }), cutting)
	volumes(t, "another one is cut", erase, v, with(cutting, func(o *api.Object) { o.Volume = "w" }))
	volumes(t, "its source is called so", erase, v, with(cutting, func(o *api.Object) { o.Volume, o.Source = "w", "v" }))
	for _, p := range []api.Phase{api.Pending, api.Ready, api.Erasing} {
		volumes(t, "was cut", erase, v, phase(cutting, p))
	}
}
