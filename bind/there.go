package bind

import (
	"iter"

	"wharfinger/api"
)

// there goes through the objects of a kind that are there: of one key the first one.
func there(all []api.Object, kind api.Kind) iter.Seq[api.Object] {
	return func(yield func(api.Object) bool) {
		seen := map[string]struct{}{}
		for _, o := range all {
			if o.Kind != kind {
				continue
			}
			if _, twice := seen[o.Name]; twice {
				continue
			}
			seen[o.Name] = struct{}{}
			if !yield(o) {
				return
			}
		}
	}
}

// find is the first one that fits.
func find(all []api.Object, kind api.Kind, fits func(api.Object) bool) (api.Object, bool) {
	for o := range there(all, kind) {
		if fits(o) {
			return o, true
		}
	}
	return api.Object{}, false
}

// least is, of those that fit, the one that stands ahead of the others.
func least(all []api.Object, kind api.Kind, fits func(api.Object) bool, order func(a, b api.Object) int) (api.Object, bool) {
	var first api.Object
	found := false
	for o := range there(all, kind) {
		if fits(o) && (!found || order(o, first) < 0) {
			first, found = o, true
		}
	}
	return first, found
}

func get(all []api.Object, kind api.Kind, name string) (api.Object, bool) {
	return find(all, kind, func(o api.Object) bool { return o.Name == name })
}

func has(all []api.Object, kind api.Kind, fits func(api.Object) bool) bool {
	_, ok := find(all, kind, fits)
	return ok
}

func write(o api.Object) api.Act {
	return api.Act{Do: api.Write, Object: o}
}

func remove(o api.Object) api.Act {
	return api.Act{Do: api.Remove, Object: o}
}

func ask(c api.Call) api.Act {
	return api.Act{Do: api.Ask, Call: c}
}
