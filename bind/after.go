package bind

import (
	"wharfinger/api"
	"wharfinger/books"
	"wharfinger/object"
)

func nextAct(all []api.Object, version uint64, k api.Key) api.Act {
	switch k.Kind {
	case api.Claim:
		return Claim(all, version, k.Name)
	case api.Volume:
		return Volume(all, version, k.Name)
	}
	return api.Act{}
}

func afterCreate(all []api.Object, claim api.Object, next uint64, r api.Result) api.Act {
	class, _ := books.Get(all, api.Class, claim.Class)
	switch r.Err {
	case api.OK:
		return books.Write(made(claim, class.Keep, r))
	case api.ErrLost: // the same call is asked again: it is done once, whatever became of it
		return api.Act{}
	case api.ErrStale:
	default: // perhaps another zone can have it, or another node
		claim.Phase, claim.Zone = api.Pending, ""
		if class.Wait {
			claim.Node = ""
		}
	}
	claim.Num = next
	return books.Write(claim)
}

// made is the volume that was made for a claim.
func made(claim api.Object, keep bool, r api.Result) api.Object {
	return object.Default(api.Object{
		Kind:  api.Volume,
		Name:  Handle(claim),
		Class: claim.Class,
		Size:  claim.Size,
		Got:   r.Size,
		Mode:  claim.Mode,
		Keep:  keep,
		Zone:  r.Zone,
		Claim: Ref(claim),
		Phase: api.Bound,
	})
}

// afterErase is the same for a volume, and for a claim that was called off.
func afterErase(o api.Object, next uint64, e api.Errno) api.Act {
	switch e {
	case api.OK:
		return books.Remove(o)
	case api.ErrStale:
		o.Num = next
		return books.Write(o)
	}
	return api.Act{}
}
