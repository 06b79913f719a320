// Package books is what the layers that keep the books of volumes share: how they find what is there, and how they tell what is to be done.
package books

import (
	"cmp"
	"iter"
	"strconv"

	"wharfinger/api"
)

// There goes through the objects of a kind that are there: of one key the first one.
func There(all []api.Object, kind api.Kind) iter.Seq[api.Object] {
	return func(yield func(api.Object) bool) {
		seen := map[string]struct{}{}
		for _, o := range all {
			if o.Kind != kind {
				continue
			}
			if _, twice := seen[o.Name]; twice {
				continue
			}
			seen[o.Name] = struct{}{}
			if !yield(o) {
				return
			}
		}
	}
}

// Find is the first one that fits.
func Find(all []api.Object, kind api.Kind, fits func(api.Object) bool) (api.Object, bool) {
	for o := range There(all, kind) {
		if fits(o) {
			return o, true
		}
	}
	return api.Object{}, false
}

// Least is, of those that fit, the one that stands ahead of the others.
func Least(all []api.Object, kind api.Kind, fits func(api.Object) bool, order func(a, b api.Object) int) (api.Object, bool) {
	var first api.Object
	found := false
	for o := range There(all, kind) {
		if fits(o) && (!found || order(o, first) < 0) {
			first, found = o, true
		}
	}
	return first, found
}

// Get is the one of a name.
func Get(all []api.Object, kind api.Kind, name string) (api.Object, bool) {
	return Find(all, kind, func(o api.Object) bool { return o.Name == name })
}

// Has tells whether there is one that fits.
func Has(all []api.Object, kind api.Kind, fits func(api.Object) bool) bool {
	_, ok := Find(all, kind, fits)
	return ok
}

// ByName is how objects of one kind stand.
func ByName(a, b api.Object) int {
	return cmp.Compare(a.Name, b.Name)
}

// Born is a name that no other object of its kind ever has, though it may be called the same.
func Born(o api.Object) string {
	return o.Name + "#" + strconv.FormatUint(o.Born, 10)
}

// Snap is what a snapshot is called at the driver.
func Snap(snapshot api.Object) string {
	return "snap/" + Born(snapshot)
}

// Write, Remove and Ask are acts.
func Write(o api.Object) api.Act {
	return api.Act{Do: api.Write, Object: o}
}

func Remove(o api.Object) api.Act {
	return api.Act{Do: api.Remove, Object: o}
}

func Ask(c api.Call) api.Act {
	return api.Act{Do: api.Ask, Call: c}
}
