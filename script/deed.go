package script

import (
	"wharfinger/api"
	"wharfinger/plane"
)

// deed is what a line does to a plane, and what it answers.
type deed func(p *plane.Plane) string

// deedOf reads a line. Nothing is done till all of its words are read: one of them may be wrong.
func deedOf(l *line) deed {
	word := read(l, name)
	if kind, ok := madeKind(word); ok {
		o := objectOf(kind, l)
		return func(p *plane.Plane) string { return told(p.Create(o)) }
	}
	switch word {
	case "del", "grow", "place", "put":
		return usersDeed(word, l)
	case "elect", "step", "crash", "resync":
		return replicasDeed(word, l)
	case "again":
		i := read(l, number)
		return func(p *plane.Plane) string { return told(p.Again(i)) }
	case "tick":
		n := read(l, number)
		return func(p *plane.Plane) string { return told(p.Tick(n)) }
	case "run":
		n := read(l, rounds)
		return func(p *plane.Plane) string { return run(p, n) }
	case "show":
		kind := read(l, anyKind)
		return func(p *plane.Plane) string { return shown(p.Objects(), kind) }
	case "driver":
		return func(p *plane.Plane) string { return shownDriver(p.Volumes(), p.Snaps()) }
	}
	l.wrong = true
	return nil
}

// objectOf is the object that a user makes.
func objectOf(kind api.Kind, l *line) api.Object {
	o := api.Object{Kind: kind, Name: read(l, name)}
	switch kind {
	case api.Class:
		o.Zone = read(l, nameOrNone)
		f := read(l, classFlags)
		o.Wait, o.Keep = f.wait, f.keep
	case api.Node:
		o.Zone = read(l, nameOrNone)
	case api.Claim:
		o.Class, o.Size, o.Mode = read(l, name), read(l, size), read(l, mode)
		o.Source = read(l, nameOrNone)
	case api.Volume:
		o.Class, o.Size, o.Mode = read(l, name), read(l, size), read(l, mode)
		o.Zone, o.Keep = read(l, nameOrNone), read(l, keepFlag)
	case api.Pod:
		o.Claim = read(l, name)
	case api.Snapshot:
		o.Source = read(l, name)
	}
	return o
}

func usersDeed(word string, l *line) deed {
	switch word {
	case "del":
		k := api.Key{Kind: read(l, madeKind), Name: read(l, name)}
		return func(p *plane.Plane) string { return told(p.Delete(k)) }
	case "grow":
		claim, n := read(l, name), read(l, size)
		return func(p *plane.Plane) string { return told(p.Grow(claim, n)) }
	case "place":
		pod, node := read(l, name), read(l, name)
		return func(p *plane.Plane) string { return told(p.Place(pod, node)) }
	}
	volume, node, tag := read(l, name), read(l, name), read(l, number)
	return func(p *plane.Plane) string { return told(p.Put(volume, node, uint64(tag))) }
}

func replicasDeed(word string, l *line) deed {
	c, r := read(l, part), read(l, replica)
	switch word {
	case "elect":
		return func(p *plane.Plane) string { return told(p.Elect(c, r)) }
	case "crash":
		return func(p *plane.Plane) string { return told(p.Crash(c, r)) }
	case "resync":
		return func(p *plane.Plane) string { return told(p.Resync(c, r)) }
	}
	o := read(l, outcome)
	return func(p *plane.Plane) string { return toldAct(p.Step(c, r, o)) }
}

// run lets the first replica of each controller act in turn, so often. While another one has the lease its turn is passed by.
func run(p *plane.Plane, n int) string {
	for range n {
		for c := plane.Binder; c <= plane.Keeper; c++ {
			p.Elect(c, 0)
			p.Step(c, 0, api.Done)
		}
		p.Tick(1)
	}
	return told(api.OK)
}
