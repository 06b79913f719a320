package plane

import (
	"wharfinger/api"
	"wharfinger/attach"
	"wharfinger/bind"
	"wharfinger/data"
	"wharfinger/object"
)

// controller is what one does: which kinds it looks after, what is next for a key, and what is next behind a call for one.
type controller interface {
	looksAfter(kind api.Kind) bool
	next(all []api.Object, version uint64, k api.Key) api.Act
	after(all []api.Object, version uint64, k api.Key, c api.Call, r api.Result) api.Act
}

type binder struct{}

type attacher struct{}

type keeper struct{}

func controllerOf(c Part) controller {
	switch c {
	case Binder:
		return binder{}
	case Attacher:
		return attacher{}
	}
	return keeper{}
}

func (binder) looksAfter(kind api.Kind) bool {
	return kind == api.Claim || kind == api.Volume
}

func (binder) next(all []api.Object, version uint64, k api.Key) api.Act {
	if k.Kind == api.Claim {
		return bind.Claim(all, version, k.Name)
	}
	return bind.Volume(all, version, k.Name)
}

func (binder) after(all []api.Object, version uint64, k api.Key, c api.Call, r api.Result) api.Act {
	return bind.After(all, version, k, c, r)
}

func (attacher) looksAfter(kind api.Kind) bool {
	return kind == api.Volume
}

func (attacher) next(all []api.Object, version uint64, k api.Key) api.Act {
	return attach.Volume(all, version, k.Name)
}

func (attacher) after(all []api.Object, version uint64, _ api.Key, c api.Call, r api.Result) api.Act {
	return attach.After(all, version, c, r)
}

func (keeper) looksAfter(kind api.Kind) bool {
	return kind == api.Claim || kind == api.Snapshot
}

func (keeper) next(all []api.Object, version uint64, k api.Key) api.Act {
	if k.Kind == api.Claim {
		return data.Claim(all, version, k.Name)
	}
	return data.Snapshot(all, version, k.Name)
}

func (keeper) after(all []api.Object, version uint64, k api.Key, c api.Call, r api.Result) api.Act {
	return data.After(all, version, k, c, r)
}

// work does what is next for a key that a replica has taken.
func (p *Plane) work(r replica, does controller, k api.Key, o api.Outcome) api.Act {
	all, version := p.store.All(), p.store.Version()
	act := does.next(all, version, k)
	switch act.Do {
	case api.Nothing:
		r.Forget(k)
	case api.Ask:
		result := p.client.Send(act.Call, o)
		p.finish(r, k, does.after(all, version, k, act.Call, result))
	default:
		p.finish(r, k, act)
	}
	return act
}

// finish does what changes the store. If it can't, or a call came to nothing, the key is tried again later.
func (p *Plane) finish(r replica, k api.Key, act api.Act) {
	if !p.change(act) {
		r.Fail(k, p.now)
		return
	}
	r.Forget(k)
	r.Add(k)
}

// change tells whether an act has changed the store.
func (p *Plane) change(act api.Act) bool {
	switch act.Do {
	case api.Write:
		return p.put(act.Object) == api.OK
	case api.Remove:
		return p.store.Remove(object.Key(act.Object), act.Object.Version) == api.OK
	}
	return false
}
