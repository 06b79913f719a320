package attach

import (
	"cmp"
	"iter"
	"slices"
)

// rising is what a walk yields, each once, the least first.
func rising[T cmp.Ordered](walk iter.Seq[T]) []T {
	return slices.Compact(slices.Sorted(walk))
}

// in tells whether something is in a list that rises.
func in[T cmp.Ordered](list []T, x T) bool {
	_, ok := slices.BinarySearch(list, x)
	return ok
}

// firstBeside is the first of a list that is not in another one that rises.
func firstBeside[T cmp.Ordered](list, other []T) (T, bool) {
	for _, x := range list {
		if !in(other, x) {
			return x, true
		}
	}
	var none T
	return none, false
}
