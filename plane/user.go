package plane

import (
	"strings"

	"wharfinger/api"
	"wharfinger/object"
)

const prefix = "pvc/" // of the names that are given to what is made for claims

// Create, Delete, Grow, Place, Put are what users do: make an object, delete one, let a claim ask for more, send a pod to a node, write a tag.
func (p *Plane) Create(o api.Object) api.Errno {
	if p == nil {
		return api.ErrNil
	}
	o, ok := userMade(o)
	if !ok {
		return api.ErrForm
	}
	if o.Kind == api.Volume {
		if e := p.provide(o); e != api.OK {
			return e
		}
	}
	return p.put(o)
}

func (p *Plane) Delete(k api.Key) api.Errno {
	if p == nil {
		return api.ErrNil
	}
	if k.Kind == api.Attach {
		return api.ErrForm
	}
	return p.store.Delete(k)
}

func (p *Plane) Grow(claim string, size int64) api.Errno {
	if p == nil {
		return api.ErrNil
	}
	c, ok := p.get(api.Claim, claim)
	if !ok {
		return api.ErrNone
	}
	if c.Phase != api.Bound || c.Deleting || size <= c.Size || size > api.MaxSize {
		return api.ErrRange
	}
	c.Size = size
	return p.put(c)
}

func (p *Plane) Place(pod, node string) api.Errno {
	if p == nil {
		return api.ErrNil
	}
	o, hasPod := p.get(api.Pod, pod)
	claim, hasClaim := p.get(api.Claim, o.Claim)
	_, hasNode := p.get(api.Node, node)
	if !hasPod || !hasClaim || !hasNode {
		return api.ErrNone
	}
	if o.Node != "" {
		return api.ErrBusy
	}
	if p.waits(claim) {
		claim.Node = node
		if e := p.put(claim); e != api.OK {
			return e
		}
	}
	o.Node = node
	return p.put(o)
}

func (p *Plane) Put(volume, node string, tag uint64) api.Errno {
	if p == nil {
		return api.ErrNil
	}
	if tag == 0 {
		return api.ErrRange
	}
	return p.client.Put(volume, node, tag)
}

// userMade is an object with what is left out; false, if no user may make it.
func userMade(o api.Object) (api.Object, bool) {
	o = object.Default(o)
	return o, object.User(o)
}

// provide sees to it that the driver has a volume that a user tells of.
func (p *Plane) provide(v api.Object) api.Errno {
	if strings.HasPrefix(v.Name, prefix) {
		return api.ErrRange
	}
	c := api.Call{Verb: api.Create, Target: v.Name, Num: 1, Size: v.Size, Zone: v.Zone}
	return p.client.Send(c, api.Done).Err
}

// waits tells whether a claim's volume is not made till somebody says for which node.
func (p *Plane) waits(claim api.Object) bool {
	class, ok := p.get(api.Class, claim.Class)
	return ok && class.Wait && claim.Phase == api.Pending && claim.Node == ""
}

func (p *Plane) get(kind api.Kind, name string) (api.Object, bool) {
	return p.store.Get(api.Key{Kind: kind, Name: name})
}

func (p *Plane) put(o api.Object) api.Errno {
	_, e := p.store.Put(o)
	return e
}
