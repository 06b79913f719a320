package script_test

import (
	"fmt"
	"math/rand"
	"slices"
	"strings"
	"testing"

	"wharfinger/api"
	"wharfinger/plane"
	"wharfinger/script"
)

func pick[T any](r *rand.Rand, l ...T) T {
	return l[r.Intn(len(l))]
}

// told is what a line answers that comes to an error, or to none.
func told(e api.Errno) string {
	if e == 0 {
		return "ok"
	}
	return fmt.Sprintf("error %d", e)
}

// made is a line by which a user makes something, and what that is.
func made(r *rand.Rand) (string, api.Object) {
	n, class, zone := pick(r, "x", "y", "!"), pick(r, "f", "g"), pick(r, "a", "b")
	mib, mode := int64(r.Intn(4)), pick(r, api.Single, api.Many)
	asked := fmt.Sprintf("%s %s %dMi %s", n, class, mib, map[api.Mode]string{api.Single: "one", api.Many: "many"}[mode])
	o := api.Object{Name: n, Class: class, Size: mib << 20, Mode: mode}
	switch r.Intn(6) {
	case 0:
		keep, wait := r.Intn(2) == 0, r.Intn(2) == 0
		flags := map[[2]bool]string{{}: "-", {true, false}: "w", {false, true}: "k", {true, true}: "wk"}[[2]bool{wait, keep}]
		return "class " + class + " " + zone + " " + flags, api.Object{Kind: api.Class, Name: class, Zone: zone, Keep: keep, Wait: wait}
	case 1:
		return "node " + n + " " + zone, api.Object{Kind: api.Node, Name: n, Zone: zone}
	case 2:
		o.Kind, o.Source = api.Claim, pick(r, "", "x", "y")
		return "claim " + asked + " " + map[string]string{"": "-", "x": "x", "y": "y"}[o.Source], o
	case 3:
		o.Kind, o.Zone, o.Keep = api.Volume, zone, r.Intn(2) == 0
		return "volume " + asked + " " + zone + " " + map[bool]string{true: "k", false: "-"}[o.Keep], o
	case 4:
		return "pod " + n + " x", api.Object{Kind: api.Pod, Name: n, Claim: "x"}
	}
	return "snap " + n + " y", api.Object{Kind: api.Snapshot, Name: n, Source: "y"}
}

// acted is a line of the replicas, and what it does.
func acted(r *rand.Rand) (string, func(p *plane.Plane) string) {
	c, replica, o := plane.Part(r.Intn(3)), r.Intn(2), api.Outcome(r.Intn(4))
	of := fmt.Sprintf(" %s %d", []string{"bind", "attach", "data"}[c], replica)
	switch r.Intn(6) {
	case 0, 1:
		return "elect" + of, func(p *plane.Plane) string { return told(p.Elect(c, replica)) }
	case 2:
		return "crash" + of, func(p *plane.Plane) string { return told(p.Crash(c, replica)) }
	case 3:
		return "resync" + of, func(p *plane.Plane) string { return told(p.Resync(c, replica)) }
	}
	return "step" + of + " " + []string{"done", "refused", "latedone", "latelost"}[o], func(p *plane.Plane) string {
		a, e := p.Step(c, replica, o)
		if e != 0 {
			return told(e)
		}
		return "ok " + []string{"nothing", "write", "remove", "ask"}[a.Do]
	}
}

// shown is a line that only tells, and what that is.
func shown(r *rand.Rand) (string, func(p *plane.Plane) string) {
	kind := api.Kind(r.Intn(8))
	if kind == api.NoKind {
		return "driver", func(p *plane.Plane) string {
			text := ""
			for _, v := range p.Volumes() {
				text += fmt.Sprintln(append([]string{v.Name, size(v.Size), v.Zone}, v.Nodes...))
			}
			for _, s := range p.Snaps() {
				text += fmt.Sprintln([]any{s.Name, s.Tag})
			}
			return orNone(strings.NewReplacer("[", "", "]", "").Replace(text), "none")
		}
	}
	name := []string{"", "class", "node", "claim", "volume", "attach", "pod", "snap"}[kind]
	return "show " + name, func(p *plane.Plane) string {
		text := ""
		for _, o := range p.Objects() {
			if o.Kind == kind {
				phase := []string{"-", "pending", "creating", "bound", "available", "released", "erasing", "attaching", "attached", "detaching", "cutting", "ready"}[o.Phase]
				text += fmt.Sprintln(o.Name, phase, size(o.Got), orNone(o.Volume, "-"))
			}
		}
		return orNone(text, "none")
	}
}

// size is the text of so many bytes, which are all of Mi here.
func size(n int64) string {
	if n == 0 {
		return "0"
	}
	return fmt.Sprintf("%dMi", n>>20)
}

func orNone(s, none string) string {
	if s == "" {
		return none
	}
	return strings.TrimSuffix(s, "\n")
}

// anyLine is a line that changes something, if it may, and what it does; it answers one line.
func anyLine(r *rand.Rand) (string, func(p *plane.Plane) string) {
	n, node, mib := pick(r, "x", "y"), pick(r, "x", "y", "z"), r.Intn(6)
	switch r.Intn(12) {
	case 0, 1, 2:
		line, o := made(r)
		return line, func(p *plane.Plane) string { return told(p.Create(o)) }
	case 3, 4:
		return acted(r)
	case 5:
		kind := pick(r, "class", "node", "claim", "volume", "pod", "snap")
		k := api.Key{Kind: map[string]api.Kind{"class": api.Class, "node": api.Node, "claim": api.Claim, "volume": api.Volume, "pod": api.Pod, "snap": api.Snapshot}[kind], Name: n}
		return "del " + kind + " " + n, func(p *plane.Plane) string { return told(p.Delete(k)) }
	case 6:
		return fmt.Sprintf("grow %s %dMi", n, mib), func(p *plane.Plane) string { return told(p.Grow(n, int64(mib)<<20)) }
	case 7:
		return "place " + n + " " + node, func(p *plane.Plane) string { return told(p.Place(n, node)) }
	case 8:
		v := pick(r, "x", "pvc/x#2", "pvc/x#3", "pvc/y#4")
		return fmt.Sprintf("put %s %s %d", v, node, mib), func(p *plane.Plane) string { return told(p.Put(v, node, uint64(mib))) }
	case 9:
		return fmt.Sprintf("again %d", mib), func(p *plane.Plane) string { return told(p.Again(mib)) }
	case 10:
		return fmt.Sprintf("tick %d", mib), func(p *plane.Plane) string { return told(p.Tick(mib)) }
	}
	return fmt.Sprintf("run %d", mib+1), func(p *plane.Plane) string {
		for range mib + 1 {
			for _, c := range []plane.Part{plane.Binder, plane.Attacher, plane.Keeper} {
				p.Elect(c, 0)
				p.Step(c, 0, api.Done)
			}
			p.Tick(1)
		}
		return "ok"
	}
}

// P16.1, P16.2: a script does to a plane just what its lines say.
func TestLikePlane(t *testing.T) {
	for seed := range 300 {
		r := rand.New(rand.NewSource(int64(seed)))
		p := plane.New(api.Zone{Name: "a", Room: 100 << 30}, api.Zone{Name: "b", Room: 100 << 30})
		text, want := "", ""
		for range 120 {
			line, do := anyLine(r)
			if r.Intn(3) == 0 {
				line, do = shown(r)
			}
			text += line + strings.Repeat(" ", r.Intn(2)) + "\n"
			want += do(p) + "\n"
		}
		if got := script.Run(text); got != want {
			t.Fatalf("seed %d:\n%s\nanswers\n%s\nwant\n%s", seed, text, got, want)
		}
	}
}

// P16.3: a script's answers begin with those of its beginning.
func TestBeginning(t *testing.T) {
	for seed := range 20 {
		r := rand.New(rand.NewSource(int64(seed)))
		text, was := "", ""
		for range 60 {
			line, _ := pick(r, anyLine, shown)(r)
			text += pick(r, "", "\n", "foo\n") + line + "\n"
			got := script.Run(text)
			if !strings.HasPrefix(got, was) {
				t.Fatalf("%s\nanswers\n%s\nits beginning answers\n%s", text, got, was)
			}
			was = got
		}
	}
}

// P16.4: what is only told changes nothing.
func TestTellingChangesNothing(t *testing.T) {
	for seed := range 20 {
		r := rand.New(rand.NewSource(int64(seed)))
		plain, mixed := "", ""
		for range 60 {
			line, _ := anyLine(r)
			for range r.Intn(3) {
				telling, _ := shown(r)
				mixed += telling + "\n"
			}
			before := script.Run(mixed)
			plain, mixed = plain+line+"\n", mixed+line+"\n"
			l := strings.Split(strings.TrimSuffix(script.Run(plain), "\n"), "\n")
			if got, want := strings.TrimPrefix(script.Run(mixed), before), l[len(l)-1]+"\n"; got != want {
				t.Fatalf("%s\nbehind %s\nanswers %s; without telling %s", line, mixed, got, want)
			}
		}
	}
}

// P1, P16.1: of any text there are answers, as many as there are lines with words at least; and they are always the same.
func FuzzRun(f *testing.F) {
	for _, s := range []string{"", "\n", "class f a -\nclaim c f 1Gi one -\nrun 9\nshow claim", "step bind 0 done\ntick 0\n\xff", "show attach\ndriver", "put a b 0\n del claim \x00", "class f a -\nelect bind 0\nclaim c f 1 many -\nstep bind 0 latedone\nagain 0\ncrash bind 0"} {
		f.Add(s)
	}
	f.Fuzz(func(t *testing.T, text string) {
		got := script.Run(text)
		if len(text) > api.MaxScript {
			if got != "long\n" {
				t.Fatalf("%q", got)
			}
			return
		}
		lines := strings.Split(text, "\n")
		withWords := 0
		for _, l := range lines {
			words := script.Words(l)
			if !slices.Equal(words, slices.DeleteFunc(strings.Split(l, " "), func(w string) bool { return w == "" })) {
				t.Fatalf("Words(%q) = %q", l, words)
			}
			if len(words) > 0 {
				withWords++
			}
		}
		if n := script.Count(text); n != len(lines) && text != "" {
			t.Fatalf("Count(%q) = %d", text, n)
		}
		if n := strings.Count(got, "\n"); n < withWords || n > 0 && !strings.HasSuffix(got, "\n") || got != script.Run(text) {
			t.Fatalf("%q answers %q", text, got)
		}
	})
}
