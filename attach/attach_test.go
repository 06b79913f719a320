package attach_test

import (
	"math"
	"slices"
	"strings"
	"testing"

	"wharfinger/api"
	"wharfinger/attach"
	"wharfinger/object"
)

// The objects of most tests: a volume of many nodes, its claim, pods of it at two nodes, and an attachment at each.
func aVolume() api.Object {
	return api.Object{Kind: api.Volume, Name: "v", Version: 6, Born: 4, Hold: true, Class: "f", Size: 10, Got: 12, Mode: api.Many, Zone: "a", Claim: "c#3", Phase: api.Bound}
}

func aClaim() api.Object {
	return api.Object{Kind: api.Claim, Name: "c", Version: 5, Born: 3, Hold: true, Class: "f", Size: 10, Got: 12, Mode: api.Many, Zone: "a", Volume: "v", Phase: api.Bound}
}

func aPod() api.Object {
	return api.Object{Kind: api.Pod, Name: "p", Version: 9, Born: 9, Claim: "c", Node: "n"}
}

func another() api.Object {
	return api.Object{Kind: api.Pod, Name: "q", Version: 10, Born: 10, Claim: "c", Node: "m"}
}

func anAttach() api.Object { return at("n", api.Attached, 0) }

// at is an attachment of the volume v.
func at(node string, p api.Phase, n uint64) api.Object {
	return api.Object{Kind: api.Attach, Name: "v/" + node, Version: 12, Born: 11, Volume: "v", Node: node, Phase: p, Num: n}
}

// began is an attachment of the volume v as it is first written, at version 19.
func began(node string) api.Object {
	return api.Object{Kind: api.Attach, Name: "v/" + node, Volume: "v", Node: node, Phase: api.Attaching, Num: 20}
}

// with is an object but for what is said.
func with(o api.Object, change func(o *api.Object)) api.Object {
	change(&o)
	return o
}

func single(o api.Object) api.Object {
	o.Mode = api.Single
	return o
}

func phase(o api.Object, p api.Phase) api.Object {
	o.Phase = p
	return o
}

func deleting(o api.Object) api.Object {
	o.Deleting = true
	return o
}

func num(o api.Object, n uint64) api.Object {
	o.Num = n
	return o
}

func write(o api.Object) api.Act  { return api.Act{Do: api.Write, Object: o} }
func remove(o api.Object) api.Act { return api.Act{Do: api.Remove, Object: o} }
func ask(c api.Call) api.Act      { return api.Act{Do: api.Ask, Call: c} }

func publish(node string, n uint64) api.Call {
	return api.Call{Verb: api.Publish, Target: "v", Num: n, Node: node}
}

func unpublish(node string, n uint64) api.Call {
	return api.Call{Verb: api.Unpublish, Target: "v", Num: n, Node: node}
}

var nothing = api.Act{}

func list(l ...api.Object) []api.Object { return l }

// tells holds a call to what it is to answer of objects in any order, with what is of one key behind the first one, and to leaving them as they are.
func tells[T any](t *testing.T, what string, all []api.Object, right func(got T) bool, answer func(all []api.Object) T) {
	t.Helper()
	backward := slices.Clone(all)
	slices.Reverse(backward)
	var doubled []api.Object
	for _, o := range all {
		doubled = append(doubled, o,
			api.Object{Kind: o.Kind, Name: o.Name, Claim: "c", Node: "j", Volume: "v", Phase: api.Bound},
			api.Object{Kind: o.Kind, Name: o.Name, Deleting: true, Volume: "v", Node: "n", Phase: api.Detaching})
	}
	for _, l := range [][]api.Object{all, backward, doubled} {
		roomy := append(slices.Clone(l), api.Object{Name: "behind"})
		if got := answer(roomy[:len(l)]); !right(got) {
			t.Errorf("%s: %+v", what, got)
		}
		if !slices.Equal(roomy[:len(l)], l) || roomy[len(l)].Name != "behind" {
			t.Errorf("%s: what was handed in changes", what)
		}
	}
}

// wanted holds Wanted of the volume v to nodes, with a blank between.
func wanted(t *testing.T, what, nodes string, all ...api.Object) {
	t.Helper()
	right := func(got []string) bool { return slices.Equal(got, strings.Fields(nodes)) }
	tells(t, what+"; want "+nodes, all, right, func(all []api.Object) []string { return attach.Wanted(all, "v") })
}

// volumes holds the next act, at version 19, of the volume v.
func volumes(t *testing.T, what string, want api.Act, all ...api.Object) {
	t.Helper()
	right := func(got api.Act) bool { return got == want }
	tells(t, what, all, right, func(all []api.Object) api.Act { return attach.Volume(all, 19, "v") })
}

// P13.1: of which pods a node counts.
func TestWantedOfPods(t *testing.T) {
	wanted(t, "of two pods", "m n", aVolume(), aClaim(), aPod(), another())
	wanted(t, "of no pod", "", aVolume(), aClaim())
	wanted(t, "of nothing", "")
	for what, change := range map[string]func(o *api.Object){
		"without Node":    func(o *api.Object) { o.Node = "" },
		"Deleting":        func(o *api.Object) { o.Deleting = true },
		"another claim":   func(o *api.Object) { o.Claim = "d" },
		"longer name":     func(o *api.Object) { o.Claim = "c#3" },
		"without Claim":   func(o *api.Object) { o.Claim = "" },
		"no pod":          func(o *api.Object) { o.Kind = api.Attach },
		"its volume's":    func(o *api.Object) { o.Claim, o.Volume = "v", "v" },
		"of a class":      func(o *api.Object) { o.Kind = api.Class },
		"a claim's, Node": func(o *api.Object) { o.Kind, o.Phase, o.Volume = api.Claim, api.Pending, "v" },
	} {
		wanted(t, what, "m", aVolume(), aClaim(), with(aPod(), change), another())
	}
	for what, change := range map[string]func(o *api.Object){
		"Hold":              func(o *api.Object) { o.Hold = true },
		"a node not there":  func(o *api.Object) { o.Version, o.Born = 0, 0 },
		"of its own name":   func(o *api.Object) { o.Name = "c" },
		"of no name at all": func(o *api.Object) { o.Name = "" },
	} {
		wanted(t, what, "m n", aVolume(), aClaim(), with(aPod(), change), another())
	}
}

// P13.1: of which claims.
func TestWantedOfClaims(t *testing.T) {
	wanted(t, "the claim is not there", "", aVolume(), aPod())
	for what, change := range map[string]func(o *api.Object){
		"Pending":        func(o *api.Object) { o.Phase = api.Pending },
		"Creating":       func(o *api.Object) { o.Phase = api.Creating },
		"no phase":       func(o *api.Object) { o.Phase = api.NoPhase },
		"another volume": func(o *api.Object) { o.Volume = "w" },
		"no volume":      func(o *api.Object) { o.Volume = "" },
		"another claim":  func(o *api.Object) { o.Name = "d" },
		"no claim":       func(o *api.Object) { o.Kind = api.Snapshot },
	} {
		wanted(t, what, "", aVolume(), with(aClaim(), change), aPod())
	}
	for what, change := range map[string]func(o *api.Object){
		"Deleting":            func(o *api.Object) { o.Deleting = true },
		"it has a Node":       func(o *api.Object) { o.Node = "q" },
		"born at another one": func(o *api.Object) { o.Born = 77 },
	} {
		wanted(t, what, "n", aVolume(), with(aClaim(), change), aPod())
	}
	d := with(aClaim(), func(o *api.Object) { o.Name = "d" })
	ofD := with(another(), func(o *api.Object) { o.Claim = "d" })
	wanted(t, "of two claims", "m n", aVolume(), aClaim(), d, aPod(), ofD)
	wanted(t, "of one of two", "m", aVolume(), phase(aClaim(), api.Pending), d, aPod(), ofD)
}

// P13.1: of which volumes.
func TestWantedOfVolumes(t *testing.T) {
	wanted(t, "it is not there", "", aClaim(), aPod())
	wanted(t, "another one is", "", with(aVolume(), func(o *api.Object) { o.Name = "w" }), aClaim(), aPod())
	wanted(t, "something else of its name", "", with(aVolume(), func(o *api.Object) { o.Kind = api.Snapshot }), aClaim(), aPod())
	for _, p := range []api.Phase{api.NoPhase, api.Pending, api.Available, api.Released, api.Erasing, api.Attached} {
		wanted(t, "it is not Bound", "", phase(aVolume(), p), aClaim(), aPod())
	}
	wanted(t, "of one node", "m n", single(aVolume()), aClaim(), aPod(), another())
	wanted(t, "it is Deleting", "n", deleting(aVolume()), aClaim(), aPod())
	wanted(t, "its Claim is not asked", "n", with(aVolume(), func(o *api.Object) { o.Claim = "x#9" }), aClaim(), aPod())
	other := append(list(aVolume(), with(aVolume(), func(o *api.Object) { o.Name = "w" })), aClaim(), aPod())
	if l := attach.Wanted(other, "w"); len(l) != 0 {
		t.Errorf("another volume is wanted at %q", l)
	}
}

// P13.1: each node once, rising by bytes, and the caller's own.
func TestWantedInOrder(t *testing.T) {
	all := list(aVolume(), aClaim())
	for i, node := range strings.Fields("n10 n9 b n a n9 z.1 n z 0 n10 -") {
		all = append(all, with(aPod(), func(o *api.Object) { o.Name, o.Node = strings.Repeat("p", i+1), node }))
	}
	wanted(t, "some nodes", "- 0 a b n n10 n9 z z.1", all...)
	first := attach.Wanted(all, "v")
	clear(first[:cap(first)])
	wanted(t, "some nodes, once more", "- 0 a b n n10 n9 z z.1", all...)
}

// P13.1
func TestAttachments(t *testing.T) {
	named := func(name string) api.Object {
		return with(anAttach(), func(o *api.Object) { o.Name = name })
	}
	of := func(what string, want []api.Object, all ...api.Object) {
		t.Helper()
		right := func(got []api.Object) bool { return slices.Equal(got, want) }
		tells(t, what, all, right, func(all []api.Object) []api.Object { return attach.Attachments(all, "v") })
	}
	of("of nothing", nil)
	of("none", nil, aVolume(), aClaim(), aPod())
	of("its volume is not there", list(anAttach()), anAttach())
	of("by their names", list(named("n"), named("v/a"), named("v/a."), named("v/n10"), named("v/n9")),
		named("v/n9"), named("v/a."), named("n"), aVolume(), named("v/n10"), named("v/a"))
	w := with(named("w/n"), func(o *api.Object) { o.Volume = "w" })
	none := with(named("v"), func(o *api.Object) { o.Volume = "" })
	longer := with(named("v/v/n"), func(o *api.Object) { o.Volume = "v/v" })
	of("of other volumes", list(anAttach()), w, none, longer, anAttach())
	for kind := range 9 {
		if api.Kind(kind) != api.Attach {
			of("of other kinds", list(anAttach()), with(anAttach(), func(o *api.Object) { o.Kind = api.Kind(kind) }), anAttach())
		}
	}
	for _, p := range []api.Phase{api.NoPhase, api.Attaching, api.Attached, api.Detaching, api.Erasing} {
		of("of any phase", list(phase(deleting(anAttach()), p)), phase(deleting(anAttach()), p))
	}
	twice := list(with(anAttach(), func(o *api.Object) { o.Volume = "w" }), anAttach())
	if l := attach.Attachments(twice, "v"); len(l) != 0 {
		t.Errorf("of one key the first one counts: %+v", l)
	}
}

// P13.1, P3: what is answered lies in nothing that was handed in.
func TestAnswersAreNew(t *testing.T) {
	all := list(anAttach(), aVolume(), aClaim(), aPod())
	l := attach.Attachments(all[:1], "v")
	clear(l[:cap(l)])
	if all[0] != anAttach() || all[1] != aVolume() {
		t.Errorf("what was handed in became %+v", all)
	}
}

// P13.2: of a volume that is not there, nothing.
func TestVolumeThere(t *testing.T) {
	volumes(t, "of nothing", nothing)
	volumes(t, "it is not there", nothing, aClaim(), aPod(), at("n", api.Detaching, 7), at("m", api.Attaching, 8))
	volumes(t, "another one is", nothing, with(aVolume(), func(o *api.Object) { o.Name = "w" }), aClaim(), aPod(), at("n", api.Detaching, 7))
	for kind := range 9 {
		if api.Kind(kind) != api.Volume {
			volumes(t, "something else of its name", nothing, with(aVolume(), func(o *api.Object) { o.Kind = api.Kind(kind) }), at("n", api.Detaching, 7))
		}
	}
	if a := attach.Volume(list(phase(aVolume(), api.Erasing), aVolume(), aClaim(), aPod()), 19, "v"); a != nothing {
		t.Errorf("of one key the first one counts: %+v", a)
	}
}

// P13.2: an attachment that is Detaching leaves its node, wanted or not.
func TestDetaching(t *testing.T) {
	out := at("n", api.Detaching, 7)
	volumes(t, "wanted", ask(unpublish("n", 7)), aVolume(), aClaim(), aPod(), out)
	volumes(t, "not wanted", ask(unpublish("n", 7)), aVolume(), aClaim(), out)
	volumes(t, "of a volume of one node, another one wanted", ask(unpublish("n", 7)), single(aVolume()), aClaim(), another(), out)
	volumes(t, "not Bound", ask(unpublish("n", 7)), phase(aVolume(), api.Erasing), out)
	volumes(t, "of any Num", ask(unpublish("n", math.MaxUint64)), aVolume(), num(out, math.MaxUint64))
	volumes(t, "of Num 0", ask(unpublish("n", 0)), aVolume(), num(out, 0))
}

// P13.2: one at a node at which it is not wanted (any more) begins to leave it.
func TestNotWanted(t *testing.T) {
	for _, p := range []api.Phase{api.Attaching, api.Attached, api.NoPhase, api.Bound} {
		o := at("n", p, 7)
		out := write(num(phase(o, api.Detaching), 20))
		volumes(t, "no pod", out, aVolume(), aClaim(), o)
		volumes(t, "another node's pod", out, aVolume(), aClaim(), another(), o)
		volumes(t, "a pod that is Deleting", out, aVolume(), aClaim(), deleting(aPod()), o)
		volumes(t, "a pod of another claim", out, aVolume(), aClaim(), with(aPod(), func(o *api.Object) { o.Claim = "d" }), o)
		volumes(t, "its claim is gone", out, aVolume(), aPod(), o)
		volumes(t, "its claim has another volume", out, aVolume(), with(aClaim(), func(o *api.Object) { o.Volume = "w" }), aPod(), o)
		for _, q := range []api.Phase{api.Available, api.Released, api.Erasing} {
			volumes(t, "not Bound", out, phase(aVolume(), q), aClaim(), aPod(), o)
		}
	}
	o := at("n", api.Attached, 0)
	if a := attach.Volume(list(aVolume(), o), math.MaxUint64, "v"); a != write(phase(o, api.Detaching)) {
		t.Errorf("behind the last number comes 0: %+v", a)
	}
}

// P13.2: one that is Attaching goes on; one that is Attached has come to rest.
func TestAttaching(t *testing.T) {
	volumes(t, "Attaching", ask(publish("n", 7)), aVolume(), aClaim(), aPod(), at("n", api.Attaching, 7))
	volumes(t, "of one node", ask(publish("n", 7)), single(aVolume()), aClaim(), aPod(), another(), at("n", api.Attaching, 7))
	volumes(t, "Attached", nothing, aVolume(), aClaim(), aPod(), anAttach())
	volumes(t, "Attached, of any Num", nothing, aVolume(), aClaim(), aPod(), at("n", api.Attached, 7))
	volumes(t, "of no phase", nothing, aVolume(), aClaim(), aPod(), at("n", api.NoPhase, 7))
	volumes(t, "Deleting", nothing, aVolume(), aClaim(), aPod(), deleting(anAttach()))
}

// P13.2: the first attachment by its name for which there is something; new ones behind all.
func TestInOrder(t *testing.T) {
	books := list(aVolume(), aClaim(), aPod(), another())
	do := func(what string, want api.Act, more ...api.Object) {
		t.Helper()
		volumes(t, what, want, append(slices.Clone(books), more...)...)
	}
	third := with(aPod(), func(o *api.Object) { o.Name, o.Node = "r", "a" })
	do("the first one", ask(publish("m", 3)), at("m", api.Attaching, 3), at("n", api.Detaching, 2))
	do("the first one", ask(unpublish("m", 3)), at("m", api.Detaching, 3), at("n", api.Attaching, 2))
	do("nothing for the first one", ask(publish("n", 2)), at("m", api.Attached, 0), at("n", api.Attaching, 2))
	do("nothing for the first one", ask(unpublish("n", 2)), at("m", api.Attached, 0), at("n", api.Detaching, 2))
	do("not wanted, behind", write(num(phase(at("o", api.Attached, 0), api.Detaching), 20)), at("o", api.Attached, 0), at("n", api.Attached, 0))
	do("not wanted, ahead", write(num(phase(at("b", api.Attached, 0), api.Detaching), 20)), at("b", api.Attached, 0), at("n", api.Detaching, 4))
	do("not wanted, behind one that goes on", ask(publish("n", 2)), at("o", api.Attached, 0), at("n", api.Attaching, 2))
	do("a new one is behind", ask(publish("n", 2)), at("n", api.Attaching, 2))
	do("a new one is behind", write(num(phase(at("z", api.Attached, 0), api.Detaching), 20)), third, at("z", api.Attached, 0))
	do("a new one, nothing for others", write(began("a")), third, at("m", api.Attached, 0), at("n", api.Attached, 0))
	do("by names, not by nodes", ask(unpublish("z", 5)),
		with(at("z", api.Detaching, 5), func(o *api.Object) { o.Name = "a" }), at("n", api.Detaching, 6))
	w := with(at("a", api.Detaching, 5), func(o *api.Object) { o.Volume, o.Name = "w", "w/a" })
	do("those of another volume are not asked", ask(unpublish("n", 6)), w, at("n", api.Detaching, 6))
}

// P13.2: a new attachment, at the first node at which it is wanted and there is none.
func TestBegin(t *testing.T) {
	volumes(t, "none so far", write(began("m")), aVolume(), aClaim(), aPod(), another())
	volumes(t, "at the one", write(began("n")), aVolume(), aClaim(), aPod(), another(), at("m", api.Attached, 0))
	volumes(t, "at the other one", write(began("m")), aVolume(), aClaim(), aPod(), another(), at("n", api.Attached, 0))
	volumes(t, "at both", nothing, aVolume(), aClaim(), aPod(), another(), at("n", api.Attached, 0), at("m", api.Attached, 0))
	volumes(t, "not wanted", nothing, aVolume(), aClaim())
	for _, p := range []api.Phase{api.Available, api.Released, api.Erasing, api.NoPhase} {
		volumes(t, "not Bound", nothing, phase(aVolume(), p), aClaim(), aPod())
	}
	volumes(t, "of no mode", write(began("n")), with(aVolume(), func(o *api.Object) { o.Mode = api.NoMode }), aClaim(), aPod(), another(), at("m", api.Attached, 0))
	volumes(t, "another volume's attachment", write(began("n")), single(aVolume()), aClaim(), aPod(),
		with(at("n", api.Attached, 0), func(o *api.Object) { o.Volume, o.Name = "w", "w/n" }))
	if a := attach.Volume(list(aVolume(), aClaim(), aPod()), math.MaxUint64, "v"); a != write(num(began("n"), 0)) {
		t.Errorf("behind the last number comes 0: %+v", a)
	}
}

// P13.2, P13.4: of a volume of one node no second one.
func TestSingle(t *testing.T) {
	volumes(t, "none so far", write(began("m")), single(aVolume()), aClaim(), aPod(), another())
	volumes(t, "one is there", nothing, single(aVolume()), aClaim(), aPod(), another(), at("n", api.Attached, 0))
	volumes(t, "one is there", nothing, single(aVolume()), aClaim(), aPod(), another(), at("m", api.Attached, 0))
	volumes(t, "one comes", ask(publish("n", 4)), single(aVolume()), aClaim(), aPod(), another(), at("n", api.Attaching, 4))
	volumes(t, "one leaves", ask(unpublish("n", 4)), single(aVolume()), aClaim(), another(), at("n", api.Detaching, 4))
	volumes(t, "one is to leave", write(num(phase(at("n", api.Attached, 0), api.Detaching), 20)), single(aVolume()), aClaim(), another(), at("n", api.Attached, 0))
	volumes(t, "its mode counts, not the claim's", nothing, single(aVolume()), aClaim(), aPod(), another(), at("n", api.Attached, 0))
	volumes(t, "its mode counts, not the claim's", write(began("m")), aVolume(), single(aClaim()), aPod(), another(), at("n", api.Attached, 0))
}

// P13.2: where the name would be none, nothing; nor at nodes behind.
func TestBeginLongNames(t *testing.T) {
	for _, c := range []struct {
		volume, node string
		ok           bool
	}{
		{strings.Repeat("v", 38), "n", true},
		{strings.Repeat("v", 39), "n", false},
		{strings.Repeat("v", 40), "n", false},
		{"v", strings.Repeat("n", 38), true},
		{"v", strings.Repeat("n", 39), false},
		{strings.Repeat("v", 20), strings.Repeat("n", 19), true},
		{strings.Repeat("v", 20), strings.Repeat("n", 20), false},
		{"pvc/c#3", "n.1-x", true},
		{"v", "N", false},
		{"v", "n ", false},
		{"v", "\xff", false},
		{"V", "n", false},
	} {
		v := with(aVolume(), func(o *api.Object) { o.Name = c.volume })
		claim := with(aClaim(), func(o *api.Object) { o.Volume = c.volume })
		pod := with(aPod(), func(o *api.Object) { o.Node = c.node })
		want := nothing
		if c.ok {
			want = write(api.Object{Kind: api.Attach, Name: c.volume + "/" + c.node, Volume: c.volume, Node: c.node, Phase: api.Attaching, Num: 20})
		}
		if a := attach.Volume(list(v, claim, pod), 19, c.volume); a != want || c.ok && !object.Right(a.Object) {
			t.Errorf("%q at %q: %+v", c.volume, c.node, a)
		}
	}
	long := with(another(), func(o *api.Object) { o.Node = "a" + strings.Repeat("n", 39) })
	volumes(t, "the first node counts alone", nothing, aVolume(), aClaim(), aPod(), long)
	volumes(t, "a long one behind", write(began("n")), aVolume(), aClaim(), aPod(), with(long, func(o *api.Object) { o.Node = "z" + o.Node }))
}
