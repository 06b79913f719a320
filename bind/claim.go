package bind

import (
	"wharfinger/api"
	"wharfinger/books"
)

// volumeOf is the volume that is a claim's.
func volumeOf(all []api.Object, claim api.Object) (api.Object, bool) {
	ref := Ref(claim)
	return books.Least(all, api.Volume, func(v api.Object) bool { return v.Claim == ref }, books.ByName)
}

// nodeOf is the node at which a claim is wanted.
func nodeOf(all []api.Object, claim api.Object) (api.Object, bool) {
	if claim.Node == "" {
		return api.Object{}, false
	}
	return books.Get(all, api.Node, claim.Node)
}

// letGo takes a claim that has its volume away, when nobody needs it any more.
func letGo(all []api.Object, claim api.Object) api.Act {
	wanted := books.Has(all, api.Pod, func(p api.Object) bool { return p.Claim == claim.Name })
	atNode := books.Has(all, api.Attach, func(a api.Object) bool { return a.Volume == claim.Volume })
	if !claim.Deleting || wanted || atNode {
		return api.Act{}
	}
	return books.Remove(claim)
}

func taking(claim, v api.Object) api.Object {
	claim.Phase, claim.Volume, claim.Got, claim.Zone, claim.Num = api.Bound, v.Name, v.Got, v.Zone, 0
	return claim
}

// callOff makes sure that nothing is left at the driver of a claim that never got its volume.
func callOff(claim api.Object, next uint64) api.Act {
	if claim.Num == 0 { // none was ever asked for
		return books.Remove(claim)
	}
	if claim.Phase == api.Creating {
		claim.Phase, claim.Num = api.Pending, next
		return books.Write(claim)
	}
	return books.Ask(api.Call{Verb: api.Erase, Target: Handle(claim), Num: claim.Num})
}

// create asks for a claim's volume.
func create(all []api.Object, claim api.Object) api.Act {
	c := api.Call{Verb: api.Create, Target: Handle(claim), Num: claim.Num, Size: claim.Size, Zone: claim.Zone}
	if claim.Source != "" {
		s, ok := books.Get(all, api.Snapshot, claim.Source)
		if !ok {
			return api.Act{}
		}
		c.Source = books.Snap(s)
	}
	return books.Ask(c)
}

// begin takes a volume of nobody for a claim that waits, or has one made.
func begin(all []api.Object, claim api.Object, next uint64) api.Act {
	if v, ok := Best(all, claim); ok {
		v.Phase, v.Claim = api.Bound, Ref(claim)
		return books.Write(v)
	}
	zone := zoneFor(all, claim)
	if zone == "" || !sourceReady(all, claim) {
		return api.Act{}
	}
	claim.Phase, claim.Zone, claim.Num = api.Creating, zone, next
	return books.Write(claim)
}

// zoneFor is where a claim's volume is to be made; empty: nowhere, as things are.
func zoneFor(all []api.Object, claim api.Object) string {
	class, ok := books.Get(all, api.Class, claim.Class)
	if !ok {
		return ""
	}
	if node, ok := nodeOf(all, claim); ok {
		return node.Zone
	}
	if class.Wait {
		return ""
	}
	return class.Zone
}

// sourceReady tells whether what a claim's volume is to be made of can be taken; so it can, if it is nothing.
func sourceReady(all []api.Object, claim api.Object) bool {
	if claim.Source == "" {
		return true
	}
	s, ok := books.Get(all, api.Snapshot, claim.Source)
	return ok && s.Phase == api.Ready && !s.Deleting && s.Got <= claim.Size
}
