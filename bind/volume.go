package bind

import (
	"wharfinger/api"
	"wharfinger/books"
)

// claimed tells whether the claim that a volume is bound to is still there.
func claimed(all []api.Object, v api.Object) bool {
	return books.Has(all, api.Claim, func(c api.Object) bool { return Ref(c) == v.Claim })
}

// inUse tells whether a volume is at a node, or may be, or is being read.
func inUse(all []api.Object, v api.Object) bool {
	return books.Has(all, api.Attach, func(a api.Object) bool { return a.Volume == v.Name }) ||
		books.Has(all, api.Snapshot, func(s api.Object) bool { return s.Volume == v.Name && s.Phase == api.Cutting })
}

func erasing(v api.Object, next uint64) api.Object {
	v.Phase, v.Num = api.Erasing, next
	return v
}

// givenUp is a volume whose claim is gone.
func givenUp(v api.Object, next uint64) api.Object {
	if v.Keep {
		v.Phase = api.Released
		return v
	}
	return erasing(v, next)
}
