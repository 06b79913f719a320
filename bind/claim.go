package bind

import "wharfinger/api"

// volumeOf is the volume that is a claim's.
func volumeOf(all []api.Object, claim api.Object) (api.Object, bool) {
	ref := Ref(claim)
	return least(all, api.Volume, func(v api.Object) bool { return v.Claim == ref }, byName)
}

// nodeOf is the node at which a claim is wanted.
func nodeOf(all []api.Object, claim api.Object) (api.Object, bool) {
	if claim.Node == "" {
		return api.Object{}, false
	}
	return get(all, api.Node, claim.Node)
}

// letGo takes a claim that has its volume away, when nobody needs it any more.
func letGo(all []api.Object, claim api.Object) api.Act {
	wanted := has(all, api.Pod, func(p api.Object) bool { return p.Claim == claim.Name })
	atNode := has(all, api.Attach, func(a api.Object) bool { return a.Volume == claim.Volume })
	if !claim.Deleting || wanted || atNode {
		return api.Act{}
	}
	return remove(claim)
}

func taking(claim, v api.Object) api.Object {
	claim.Phase, claim.Volume, claim.Got, claim.Zone, claim.Num = api.Bound, v.Name, v.Got, v.Zone, 0
	return claim
}

// callOff makes sure that nothing is left at the driver of a claim that never got its volume.
func callOff(claim api.Object, next uint64) api.Act {
	if claim.Num == 0 { // none was ever asked for
		return remove(claim)
	}
	if claim.Phase == api.Creating {
		claim.Phase, claim.Num = api.Pending, next
		return write(claim)
	}
	return ask(api.Call{Verb: api.Erase, Target: Handle(claim), Num: claim.Num})
}

// create asks for a claim's volume.
func create(all []api.Object, claim api.Object) api.Act {
	c := api.Call{Verb: api.Create, Target: Handle(claim), Num: claim.Num, Size: claim.Size, Zone: claim.Zone}
	if claim.Source != "" {
		s, ok := get(all, api.Snapshot, claim.Source)
		if !ok {
			return api.Act{}
		}
		c.Source = snapshotPrefix + born(s)
	}
	return ask(c)
}

// begin takes a volume of nobody for a claim that waits, or has one made.
func begin(all []api.Object, claim api.Object, next uint64) api.Act {
	if v, ok := Best(all, claim); ok {
		v.Phase, v.Claim = api.Bound, Ref(claim)
		return write(v)
	}
	zone := zoneFor(all, claim)
	if zone == "" || !sourceReady(all, claim) {
		return api.Act{}
	}
	claim.Phase, claim.Zone, claim.Num = api.Creating, zone, next
	return write(claim)
}

// zoneFor is where a claim's volume is to be made; empty: nowhere, as things are.
func zoneFor(all []api.Object, claim api.Object) string {
	class, ok := get(all, api.Class, claim.Class)
	if !ok {
		return ""
	}
	if node, ok := nodeOf(all, claim); ok {
		return node.Zone
	}
	if class.Wait {
		return ""
	}
	return class.Zone
}

// sourceReady tells whether what a claim's volume is to be made of can be taken; so it can, if it is nothing.
func sourceReady(all []api.Object, claim api.Object) bool {
	if claim.Source == "" {
		return true
	}
	s, ok := get(all, api.Snapshot, claim.Source)
	return ok && s.Phase == api.Ready && !s.Deleting && s.Got <= claim.Size
}
