// Package texts is what the layers that read texts share: how they cut them.
package texts

import "iter"

// Cut yields what stands between the marks of a text; mark has one byte.
func Cut(s string, mark rune) iter.Seq[string] {
	return func(yield func(string) bool) {
		from := 0
		for i, r := range s {
			if r != mark {
				continue
			}
			if !yield(s[from:i]) {
				return
			}
			from = i + 1
		}
		yield(s[from:])
	}
}
