package object_test

import (
	"math"
	"math/rand"
	"slices"
	"strings"
	"testing"

	"wharfinger/api"
	"wharfinger/object"
)

var longest = strings.Repeat("n", api.MaxName)

// part is one thing that an object has, or has not.
type part struct {
	name string
	set  func(o *api.Object)
	none func(o *api.Object)
}

func text(name string, field func(o *api.Object) *string) part {
	return part{name, func(o *api.Object) { *field(o) = "x" }, func(o *api.Object) { *field(o) = "" }}
}

func number[T int64 | uint64 | api.Mode | api.Phase](name string, x T, field func(o *api.Object) *T) part {
	return part{name, func(o *api.Object) { *field(o) = x }, func(o *api.Object) { *field(o) = 0 }}
}

func flag(name string, field func(o *api.Object) *bool) part {
	return part{name, func(o *api.Object) { *field(o) = true }, func(o *api.Object) { *field(o) = false }}
}

// parts are all that a kind may name, or not.
var parts = []part{
	text("Class", func(o *api.Object) *string { return &o.Class }),
	number("Size", 1, func(o *api.Object) *int64 { return &o.Size }),
	number("Got", 1, func(o *api.Object) *int64 { return &o.Got }),
	number("Mode", api.Single, func(o *api.Object) *api.Mode { return &o.Mode }),
	flag("Keep", func(o *api.Object) *bool { return &o.Keep }),
	flag("Wait", func(o *api.Object) *bool { return &o.Wait }),
	text("Zone", func(o *api.Object) *string { return &o.Zone }),
	text("Node", func(o *api.Object) *string { return &o.Node }),
	text("Claim", func(o *api.Object) *string { return &o.Claim }),
	text("Volume", func(o *api.Object) *string { return &o.Volume }),
	text("Source", func(o *api.Object) *string { return &o.Source }),
	number("Phase", api.Pending, func(o *api.Object) *api.Phase { return &o.Phase }),
	number("Num", 1, func(o *api.Object) *uint64 { return &o.Num }),
	number("Tag", 1, func(o *api.Object) *uint64 { return &o.Tag }),
}

// textOf is a text of an object that is no name of its own.
var textOf = map[string]func(o *api.Object) *string{
	"Class":  func(o *api.Object) *string { return &o.Class },
	"Zone":   func(o *api.Object) *string { return &o.Zone },
	"Node":   func(o *api.Object) *string { return &o.Node },
	"Claim":  func(o *api.Object) *string { return &o.Claim },
	"Volume": func(o *api.Object) *string { return &o.Volume },
	"Source": func(o *api.Object) *string { return &o.Source },
}

// full are right objects that have all that their kind names; needed is what there they can't be without.
var full = []struct {
	o             api.Object
	named, needed string
}{
	{api.Object{Kind: api.Class, Name: "fast", Version: 9, Born: 4, Deleting: true, Hold: true, Zone: "a", Wait: true, Keep: true},
		"Zone Wait Keep", ""},
	{api.Object{Kind: api.Node, Name: "n.1", Version: 9, Born: 4, Deleting: true, Hold: true, Zone: "a"},
		"Zone", "Zone"},
	{api.Object{Kind: api.Claim, Name: "c", Version: 9, Born: 4, Deleting: true, Hold: true, Class: "fast", Size: 10, Got: 12, Mode: api.Many,
		Zone: "a", Node: "n", Volume: "v", Source: "s", Phase: api.Bound, Num: 7},
		"Class Size Got Mode Zone Node Volume Source Phase Num", "Class Size Mode Volume Phase"},
	{api.Object{Kind: api.Volume, Name: "pvc/c#1", Version: 9, Born: 4, Deleting: true, Hold: true, Class: "fast", Size: 10, Got: 12, Mode: api.Many,
		Keep: true, Zone: "a", Claim: "c#1", Phase: api.Bound, Num: 7},
		"Class Size Got Mode Keep Zone Claim Phase Num", "Class Size Got Mode Zone Claim Phase"},
	{api.Object{Kind: api.Attach, Name: "x/v/n", Version: 9, Born: 4, Deleting: true, Hold: true, Volume: "x/v", Node: "n", Phase: api.Attached, Num: 7},
		"Volume Node Phase Num", "Volume Node Phase"},
	{api.Object{Kind: api.Pod, Name: "p", Version: 9, Born: 4, Deleting: true, Hold: true, Claim: "c", Node: "n"},
		"Claim Node", "Claim"},
	{api.Object{Kind: api.Snapshot, Name: "s", Version: 9, Born: 4, Deleting: true, Hold: true, Source: "c", Volume: "v", Got: 12,
		Phase: api.Ready, Num: 7, Tag: 8},
		"Source Volume Got Phase Num Tag", "Source Phase"},
}

// users are objects that a user may make, with no more than they must have.
var users = []api.Object{
	{Kind: api.Class, Name: "fast"},
	{Kind: api.Node, Name: "n", Zone: "a"},
	{Kind: api.Claim, Name: "c", Class: "fast", Size: 10, Mode: api.Single, Phase: api.Pending},
	{Kind: api.Volume, Name: "v", Class: "fast", Size: 10, Got: 10, Mode: api.Single, Zone: "a", Phase: api.Available},
	{Kind: api.Pod, Name: "p", Claim: "c"},
	{Kind: api.Snapshot, Name: "s", Source: "c", Phase: api.Pending},
}

func has(words, word string) bool {
	return slices.Contains(strings.Fields(words), word)
}

// P3.1
func TestName(t *testing.T) {
	for _, s := range []string{"a", "z", "0", "9", "-", ".", "#", "/", "pvc/c#12", "a.b-c", "//", "..", "007", longest, strings.Repeat("/", api.MaxName)} {
		if !object.Name(s) {
			t.Errorf("Name(%q)", s)
		}
	}
	for _, s := range []string{
		"", longest + "n", longest + longest, strings.Repeat("a", 1000), "A", "aB", "a b", " a", "a ", "a_b", "a=b", "a,b", "a|b", "a:b", "a\\b",
		"\x00", "a\x00", "\xff", "a\xff", "\u00e9", "a\u00e9", "\uff41", "\u0661", "a\n", "\u212a", "\ufffd", "\U0001f600", "`", "{", "\"", "$", ",", ":",
		strings.Repeat("a", api.MaxName-1) + "\u00e9",
	} {
		if object.Name(s) {
			t.Errorf("Name(%q)", s)
		}
	}
	for b := range 256 {
		want := b >= 'a' && b <= 'z' || b >= '0' && b <= '9' || b == '-' || b == '.' || b == '#' || b == '/'
		for _, s := range []string{string([]byte{byte(b)}), string([]byte{'a', byte(b), 'a'}), string([]byte{'a', 'a', byte(b)})} {
			if object.Name(s) != want {
				t.Errorf("Name(%q)", s)
			}
		}
	}
}

// P3.1: what its kind names, and nothing besides.
func TestRightHasWhatItsKindNames(t *testing.T) {
	for _, c := range full {
		if !object.Right(c.o) {
			t.Errorf("Right(%+v)", c.o)
		}
		for _, p := range parts {
			with, without := c.o, c.o
			p.set(&with)
			p.none(&without)
			if !has(c.named, p.name) {
				if without != c.o || object.Right(with) {
					t.Errorf("Right of kind %d with %s", c.o.Kind, p.name)
				}
				continue
			}
			if object.Right(without) != !has(c.needed, p.name) {
				t.Errorf("Right of kind %d without %s: %v", c.o.Kind, p.name, object.Right(without))
			}
		}
	}
}

// P3.1: nothing besides, be it right in another kind or not.
func TestRightBesides(t *testing.T) {
	for _, o := range users {
		if !object.Right(o) {
			t.Errorf("Right(%+v)", o)
		}
	}
	for _, c := range []api.Object{
		{Kind: api.Class, Name: "a", Size: -1}, {Kind: api.Class, Name: "a", Got: math.MinInt64}, {Kind: api.Class, Name: "a", Size: api.MaxSize},
		{Kind: api.Class, Name: "a", Mode: 255}, {Kind: api.Class, Name: "a", Phase: 255}, {Kind: api.Class, Name: "a", Node: "A"},
		{Kind: api.Class, Name: "a", Num: math.MaxUint64}, {Kind: api.Class, Name: "a", Tag: math.MaxUint64},
		{Kind: api.Pod, Name: "p", Claim: "c", Phase: api.Bound}, {Kind: api.Pod, Name: "p", Claim: "c", Mode: api.Many},
	} {
		if object.Right(c) {
			t.Errorf("Right(%+v)", c)
		}
	}
}

// P3.1: Name, Version, Born, Deleting and Hold may all have, and none must, but the Name.
func TestRightOfAllKinds(t *testing.T) {
	for _, c := range full {
		for _, n := range []uint64{0, 1, math.MaxUint64} {
			for i := range 4 {
				o := c.o
				o.Version, o.Born, o.Deleting, o.Hold = n, n/2, i&1 != 0, i&2 != 0
				if !object.Right(o) {
					t.Errorf("Right(%+v)", o)
				}
			}
		}
		for _, name := range []string{"", "A", "a b", longest + "n", "\xff"} {
			o := c.o
			o.Name = name
			if object.Right(o) {
				t.Errorf("Right(%+v)", o)
			}
		}
		for kind := range 256 {
			o := c.o
			o.Kind = api.Kind(kind)
			if one := o.Kind >= api.Class && o.Kind <= api.Snapshot; !one && object.Right(o) {
				t.Errorf("Right(%+v)", o)
			}
		}
	}
	if object.Right(api.Object{}) {
		t.Error("the zero object")
	}
	for kind := range 256 {
		o := api.Object{Kind: api.Kind(kind), Name: "a"}
		if object.Right(o) != (o.Kind == api.Class) {
			t.Errorf("Right(%+v)", o)
		}
	}
}

// P3.1
func TestRightTexts(t *testing.T) {
	for _, c := range full {
		for name, field := range textOf {
			if !has(c.named, name) || c.o.Kind == api.Attach {
				continue
			}
			o := c.o
			for _, s := range []string{"a", "a/b", "pvc/c#1", ".", "#", "/", longest} {
				*field(&o) = s
				if !object.Right(o) {
					t.Errorf("Right(%+v)", o)
				}
			}
			for _, s := range []string{"A", "a b", " ", "a_", "\x00", "\xff", "\u00e9", longest + "n"} {
				*field(&o) = s
				if object.Right(o) {
					t.Errorf("Right(%+v)", o)
				}
			}
		}
	}
}

// P3.1
func TestRightSizes(t *testing.T) {
	in := []int64{1, 2, 1 << 30, api.MaxSize - 1, api.MaxSize}
	out := []int64{-1, math.MinInt64, api.MaxSize + 1, math.MaxInt64}
	for _, c := range full {
		for _, name := range []string{"Size", "Got"} {
			if !has(c.named, name) {
				continue
			}
			right := func(n int64) bool {
				o := c.o
				if name == "Size" {
					o.Size = n
				} else {
					o.Got = n
				}
				return object.Right(o)
			}
			for _, n := range in {
				if !right(n) {
					t.Errorf("Right of kind %d, %s %d", c.o.Kind, name, n)
				}
			}
			for _, n := range out {
				if right(n) {
					t.Errorf("Right of kind %d, %s %d", c.o.Kind, name, n)
				}
			}
			if right(0) == has(c.needed, name) {
				t.Errorf("Right of kind %d, %s 0", c.o.Kind, name)
			}
		}
	}
}

// P3.1
func TestRightPhases(t *testing.T) {
	phases := map[api.Kind][]api.Phase{
		api.Class:    {api.NoPhase},
		api.Node:     {api.NoPhase},
		api.Claim:    {api.Pending, api.Creating, api.Bound},
		api.Volume:   {api.Available, api.Bound, api.Released, api.Erasing},
		api.Attach:   {api.Attaching, api.Attached, api.Detaching},
		api.Pod:      {api.NoPhase},
		api.Snapshot: {api.Pending, api.Cutting, api.Ready, api.Erasing},
	}
	for _, c := range full {
		for p := range 256 {
			o := c.o
			o.Phase = api.Phase(p)
			if o.Kind == api.Claim && o.Phase != api.Bound {
				o.Volume = ""
			}
			if object.Right(o) != slices.Contains(phases[o.Kind], o.Phase) {
				t.Errorf("Right(%+v) = %v", o, object.Right(o))
			}
		}
	}
}

// P3.1
func TestRightModes(t *testing.T) {
	for _, c := range full {
		for m := range 256 {
			o := c.o
			o.Mode = api.Mode(m)
			want := o.Mode == api.NoMode
			if has(c.named, "Mode") {
				want = o.Mode == api.Single || o.Mode == api.Many
			}
			if object.Right(o) != want {
				t.Errorf("Right(%+v) = %v", o, !want)
			}
		}
	}
}

// P3.1: a claim has a volume just if it is Bound; a volume that is Bound or Released has a claim, another one may.
func TestRightBelonging(t *testing.T) {
	for phase, want := range map[api.Phase][2]bool{ // without, with a volume
		api.Pending: {true, false}, api.Creating: {true, false}, api.Bound: {false, true},
	} {
		o := api.Object{Kind: api.Claim, Name: "c", Class: "f", Size: 1, Mode: api.Single, Phase: phase}
		without := object.Right(o)
		o.Volume = "v"
		if with := object.Right(o); with != want[1] || without != want[0] {
			t.Errorf("a claim of phase %d: %v, %v", phase, without, with)
		}
	}
	for phase, want := range map[api.Phase][2]bool{ // without, with a claim
		api.Available: {true, true}, api.Bound: {false, true}, api.Released: {false, true}, api.Erasing: {true, true},
	} {
		o := api.Object{Kind: api.Volume, Name: "v", Class: "f", Size: 1, Got: 1, Mode: api.Single, Zone: "a", Phase: phase}
		without := object.Right(o)
		o.Claim = "c#1"
		if with := object.Right(o); with != want[1] || without != want[0] {
			t.Errorf("a volume of phase %d: %v, %v", phase, without, with)
		}
	}
}

// P3.1
func TestRightNode(t *testing.T) {
	for name, want := range map[string]bool{"n": true, "n.1": true, "n#1": true, "-": true, longest: true,
		"/": false, "a/b": false, "/a": false, "a/": false, longest[1:] + "/": false} {
		if object.Right(api.Object{Kind: api.Node, Name: name, Zone: "z/1"}) != want {
			t.Errorf("Right of the node %q", name)
		}
	}
}

// P3.1
func TestRightAttach(t *testing.T) {
	for _, c := range []struct {
		name, volume, node string
		want               bool
	}{
		{"v/n", "v", "n", true},
		{"x/v/n", "x/v", "n", true},
		{"x/v/n", "x", "v/n", false}, // the node has a /
		{"///n", "//", "n", true},
		{"v/n/", "v", "n/", false},
		{"v//n", "v", "/n", false},
		{"v/n", "v", "m", false},
		{"v/n", "w", "n", false},
		{"vn", "v", "n", false},
		{"v/nn", "v", "n", false},
		{"n/v", "v", "n", false},
		{"v/", "v", "", false},
		{"/n", "", "n", false},
		{"/", "", "", false},
		{longest[2:] + "/n", longest[2:], "n", true},
		{longest[1:] + "/n", longest[1:], "n", false}, // 41 bytes
		{"n/" + longest[2:], "n", longest[2:], true},
		{"V/n", "V", "n", false},
		{"v/N", "v", "N", false},
	} {
		o := api.Object{Kind: api.Attach, Name: c.name, Volume: c.volume, Node: c.node, Phase: api.Attaching}
		if object.Right(o) != c.want {
			t.Errorf("Right(%+v) = %v", o, !c.want)
		}
	}
}

// P3.2
func TestDefault(t *testing.T) {
	for _, c := range []struct{ o, want api.Object }{
		{api.Object{Kind: api.Claim, Name: "a", Class: "fast", Size: 10},
			api.Object{Kind: api.Claim, Name: "a", Class: "fast", Size: 10, Mode: api.Single, Phase: api.Pending, Hold: true}},
		{api.Object{Kind: api.Claim}, api.Object{Kind: api.Claim, Mode: api.Single, Phase: api.Pending, Hold: true}},
		{api.Object{Kind: api.Claim, Mode: api.Many}, api.Object{Kind: api.Claim, Mode: api.Many, Phase: api.Pending, Hold: true}},
		{api.Object{Kind: api.Claim, Phase: api.Bound}, api.Object{Kind: api.Claim, Mode: api.Single, Phase: api.Bound, Hold: true}},
		{api.Object{Kind: api.Volume, Size: 9}, api.Object{Kind: api.Volume, Size: 9, Got: 9, Mode: api.Single, Phase: api.Available, Hold: true}},
		{api.Object{Kind: api.Volume, Size: 9, Got: 5}, api.Object{Kind: api.Volume, Size: 9, Got: 5, Mode: api.Single, Phase: api.Available, Hold: true}},
		{api.Object{Kind: api.Volume, Size: 9, Phase: api.Erasing}, api.Object{Kind: api.Volume, Size: 9, Got: 9, Mode: api.Single, Phase: api.Erasing, Hold: true}},
		{api.Object{Kind: api.Volume, Size: 9, Phase: api.Bound, Mode: api.Many}, api.Object{Kind: api.Volume, Size: 9, Got: 9, Mode: api.Many, Phase: api.Bound, Hold: true}},
		{api.Object{Kind: api.Volume}, api.Object{Kind: api.Volume, Mode: api.Single, Phase: api.Available, Hold: true}},
		{api.Object{Kind: api.Volume, Size: -3}, api.Object{Kind: api.Volume, Size: -3, Got: -3, Mode: api.Single, Phase: api.Available, Hold: true}},
		{api.Object{Kind: api.Volume, Got: -3}, api.Object{Kind: api.Volume, Got: -3, Mode: api.Single, Phase: api.Available, Hold: true}},
		{api.Object{Kind: api.Volume, Mode: 77, Phase: 99}, api.Object{Kind: api.Volume, Mode: 77, Phase: 99, Hold: true}},
		{api.Object{Kind: api.Snapshot}, api.Object{Kind: api.Snapshot, Phase: api.Pending, Hold: true}},
		{api.Object{Kind: api.Snapshot, Size: 9, Phase: api.Ready}, api.Object{Kind: api.Snapshot, Size: 9, Phase: api.Ready, Hold: true}},
		{api.Object{Kind: api.Attach, Volume: "x/v", Node: "n"}, api.Object{Kind: api.Attach, Name: "x/v/n", Volume: "x/v", Node: "n"}},
		{api.Object{Kind: api.Attach, Name: "a", Volume: "v", Node: "n"}, api.Object{Kind: api.Attach, Name: "a", Volume: "v", Node: "n"}},
		{api.Object{Kind: api.Attach}, api.Object{Kind: api.Attach, Name: "/"}},
		{api.Object{Kind: api.Claim, Volume: "v", Node: "n"}, api.Object{Kind: api.Claim, Volume: "v", Node: "n", Mode: api.Single, Phase: api.Pending, Hold: true}},
		{api.Object{}, api.Object{}},
		{api.Object{Kind: api.Class, Size: 9, Volume: "v", Node: "n"}, api.Object{Kind: api.Class, Size: 9, Volume: "v", Node: "n"}},
		{api.Object{Kind: api.Node, Size: 9, Volume: "v", Node: "n"}, api.Object{Kind: api.Node, Size: 9, Volume: "v", Node: "n"}},
		{api.Object{Kind: api.Pod, Size: 9, Volume: "v", Node: "n"}, api.Object{Kind: api.Pod, Size: 9, Volume: "v", Node: "n"}},
		{api.Object{Kind: 8, Size: 9, Volume: "v", Node: "n"}, api.Object{Kind: 8, Size: 9, Volume: "v", Node: "n"}},
	} {
		if d := object.Default(c.o); d != c.want {
			t.Errorf("Default(%+v) = %+v", c.o, d)
		}
	}
}

// P3.2: what is full stays as it is.
func TestDefaultOfFull(t *testing.T) {
	for _, c := range full {
		if d := object.Default(c.o); d != c.o {
			t.Errorf("Default(%+v) = %+v", c.o, d)
		}
		o := c.o
		o.Hold = false
		d := object.Default(o)
		held := o.Kind == api.Claim || o.Kind == api.Volume || o.Kind == api.Snapshot
		if d.Hold != held {
			t.Errorf("Default(%+v) = %+v", o, d)
		}
	}
}

// P3.2, and the example of the chapter.
func TestUser(t *testing.T) {
	for _, o := range users {
		if !object.User(o) || !object.User(object.Default(o)) {
			t.Errorf("User(%+v)", o)
		}
	}
	for _, o := range []api.Object{
		{Kind: api.Class, Name: "fast", Zone: "a", Wait: true, Keep: true, Hold: true},
		{Kind: api.Node, Name: "n", Zone: "a", Hold: true},
		{Kind: api.Claim, Name: "c", Class: "fast", Size: 10, Mode: api.Many, Source: "s", Phase: api.Pending, Hold: true},
		{Kind: api.Volume, Name: "v", Class: "fast", Size: 10, Got: 10, Mode: api.Many, Keep: true, Zone: "a", Phase: api.Available, Hold: true},
		{Kind: api.Pod, Name: "p", Claim: "c", Hold: true},
		{Kind: api.Snapshot, Name: "s", Source: "c", Phase: api.Pending, Hold: true},
		object.Default(api.Object{Kind: api.Claim, Name: "a", Class: "fast", Size: 10}),
	} {
		if !object.Right(o) || !object.User(o) {
			t.Errorf("User(%+v)", o)
		}
	}
}

// P3.2: each of them is right, but no user's.
func TestUserWrong(t *testing.T) {
	for _, o := range []api.Object{
		{Kind: api.Claim, Name: "c", Class: "f", Size: 10, Mode: api.Single, Phase: api.Creating},
		{Kind: api.Claim, Name: "c", Class: "f", Size: 10, Mode: api.Single, Phase: api.Bound, Volume: "v"},
		{Kind: api.Claim, Name: "c", Class: "f", Size: 10, Mode: api.Single, Phase: api.Pending, Node: "n"},
		{Kind: api.Claim, Name: "c", Class: "f", Size: 10, Mode: api.Single, Phase: api.Pending, Zone: "a"},
		{Kind: api.Claim, Name: "c", Class: "f", Size: 10, Mode: api.Single, Phase: api.Pending, Got: 10},
		{Kind: api.Claim, Name: "c", Class: "f", Size: 10, Mode: api.Single, Phase: api.Pending, Num: 1},
		{Kind: api.Volume, Name: "v", Class: "f", Size: 10, Got: 10, Mode: api.Single, Zone: "a", Phase: api.Bound, Claim: "c#1"},
		{Kind: api.Volume, Name: "v", Class: "f", Size: 10, Got: 10, Mode: api.Single, Zone: "a", Phase: api.Released, Claim: "c#1"},
		{Kind: api.Volume, Name: "v", Class: "f", Size: 10, Got: 10, Mode: api.Single, Zone: "a", Phase: api.Erasing},
		{Kind: api.Volume, Name: "v", Class: "f", Size: 10, Got: 10, Mode: api.Single, Zone: "a", Phase: api.Available, Claim: "c#1"},
		{Kind: api.Volume, Name: "v", Class: "f", Size: 10, Got: 9, Mode: api.Single, Zone: "a", Phase: api.Available},
		{Kind: api.Volume, Name: "v", Class: "f", Size: 10, Got: 11, Mode: api.Single, Zone: "a", Phase: api.Available},
		{Kind: api.Volume, Name: "v", Class: "f", Size: 10, Got: 10, Mode: api.Single, Zone: "a", Phase: api.Available, Num: 1},
		{Kind: api.Pod, Name: "p", Claim: "c", Node: "n"},
		{Kind: api.Snapshot, Name: "s", Source: "c", Phase: api.Cutting},
		{Kind: api.Snapshot, Name: "s", Source: "c", Phase: api.Ready},
		{Kind: api.Snapshot, Name: "s", Source: "c", Phase: api.Erasing},
		{Kind: api.Snapshot, Name: "s", Source: "c", Phase: api.Pending, Volume: "v"},
		{Kind: api.Snapshot, Name: "s", Source: "c", Phase: api.Pending, Got: 1},
		{Kind: api.Snapshot, Name: "s", Source: "c", Phase: api.Pending, Num: 1},
		{Kind: api.Snapshot, Name: "s", Source: "c", Phase: api.Pending, Tag: 1},
		{Kind: api.Attach, Name: "v/n", Volume: "v", Node: "n", Phase: api.Attaching},
		{Kind: api.Attach, Name: "v/n", Volume: "v", Node: "n", Phase: api.Attached},
		{Kind: api.Attach, Name: "v/n", Volume: "v", Node: "n", Phase: api.Detaching},
	} {
		if !object.Right(o) || object.User(o) {
			t.Errorf("Right(%+v) = %v, User %v", o, object.Right(o), object.User(o))
		}
	}
	for _, o := range users {
		version, born, deleting := o, o, o
		version.Version, born.Born, deleting.Deleting = 1, 1, true
		for _, x := range []api.Object{version, born, deleting} {
			if !object.Right(x) || object.User(x) {
				t.Errorf("Right(%+v) = %v, User %v", x, object.Right(x), object.User(x))
			}
		}
	}
}

// P3.2: nothing that is not right is a user's.
func TestUserIsRight(t *testing.T) {
	for _, o := range users {
		for _, p := range parts {
			with, without := o, o
			p.set(&with)
			p.none(&without)
			for _, x := range []api.Object{with, without} {
				if object.User(x) && !object.Right(x) {
					t.Errorf("User(%+v)", x)
				}
			}
		}
		for _, name := range []string{"", "A", longest + "n"} {
			x := o
			x.Name = name
			if object.User(x) {
				t.Errorf("User(%+v)", x)
			}
		}
	}
	for _, o := range []api.Object{
		{},
		{Kind: 8, Name: "a"},
		{Kind: api.Class, Name: "a", Zone: "A"},
		{Kind: api.Node, Name: "n"},
		{Kind: api.Node, Name: "a/b", Zone: "a"},
		{Kind: api.Claim, Name: "c", Class: "f", Size: api.MaxSize + 1, Mode: api.Single, Phase: api.Pending},
		{Kind: api.Claim, Name: "c", Class: "f", Size: 10, Mode: api.Single}, // by Default it is
		{Kind: api.Volume, Name: "v", Class: "f", Size: 10, Mode: api.Single, Zone: "a", Phase: api.Available},
		{Kind: api.Volume, Name: "v", Class: "f", Mode: api.Single, Zone: "a", Phase: api.Available},
		{Kind: api.Snapshot, Name: "s", Source: "c"},
	} {
		if object.User(o) {
			t.Errorf("User(%+v)", o)
		}
	}
}

// P3.2
func TestKey(t *testing.T) {
	for _, c := range full {
		if k := object.Key(c.o); k != (api.Key{Kind: c.o.Kind, Name: c.o.Name}) {
			t.Errorf("Key(%+v) = %v", c.o, k)
		}
	}
	if k := object.Key(api.Object{}); k != (api.Key{}) {
		t.Error(k)
	}
	if k := object.Key(api.Object{Kind: 200, Name: "\xff A", Zone: "z"}); k != (api.Key{Kind: 200, Name: "\xff A"}) {
		t.Error(k)
	}
}

// P3.2
func TestAttachName(t *testing.T) {
	for _, c := range [][3]string{
		{"v", "n", "v/n"}, {"x/v", "n", "x/v/n"}, {"", "", "/"}, {"v", "", "v/"}, {"", "n", "/n"}, {"v/", "/n", "v///n"},
		{longest, longest, longest + "/" + longest}, {"\xff", "A ", "\xff/A "},
	} {
		if s := object.AttachName(c[0], c[1]); s != c[2] {
			t.Errorf("AttachName(%q, %q) = %q", c[0], c[1], s)
		}
	}
}

// P3.2
func TestLess(t *testing.T) {
	rising := []api.Key{
		{}, {Name: "z"}, {Kind: 1}, {Kind: 1, Name: "#"}, {Kind: 1, Name: "-"}, {Kind: 1, Name: "10"}, {Kind: 1, Name: "9"},
		{Kind: 1, Name: "B"}, {Kind: 1, Name: "a"}, {Kind: 1, Name: "a-"}, {Kind: 1, Name: "a/b"}, {Kind: 1, Name: "aa"}, {Kind: 1, Name: "b"}, {Kind: 1, Name: "\xff"},
		{Kind: 2, Name: ""}, {Kind: 2, Name: "a"}, {Kind: 7, Name: "a"}, {Kind: 200, Name: "a"}, {Kind: 255},
	}
	for i, a := range rising {
		for j, b := range rising {
			if object.Less(a, b) != (i < j) {
				t.Errorf("Less(%v, %v) = %v", a, b, i >= j)
			}
		}
	}
}

// anyObject is one of any kind, often with little in it, right or not.
func anyObject(r *rand.Rand) api.Object {
	texts := []string{"", "", "a", "b/c", "A", longest + "n"}
	sizes := []int64{0, 0, 1, 9, api.MaxSize, -1, math.MinInt64, math.MaxInt64}
	some := func() string { return texts[r.Intn(len(texts))] }
	return api.Object{
		Kind: api.Kind(r.Intn(9)), Name: some(), Version: uint64(r.Intn(2)), Born: uint64(r.Intn(2)), Deleting: r.Intn(2) == 0, Hold: r.Intn(2) == 0,
		Class: some(), Size: sizes[r.Intn(len(sizes))], Got: sizes[r.Intn(len(sizes))], Mode: api.Mode(r.Intn(4)), Keep: r.Intn(2) == 0, Wait: r.Intn(2) == 0,
		Zone: some(), Node: some(), Claim: some(), Volume: some(), Source: some(), Phase: api.Phase(r.Intn(13)), Num: uint64(r.Intn(2)), Tag: uint64(r.Intn(2)),
	}
}

// P3.3
func TestDefaultOfDefault(t *testing.T) {
	r := rand.New(rand.NewSource(3))
	for range 100000 {
		o := anyObject(r)
		d := object.Default(o)
		if again := object.Default(d); again != d {
			t.Fatalf("Default of Default(%+v) = %+v: %+v", o, d, again)
		}
	}
}
