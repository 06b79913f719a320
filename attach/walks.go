package attach

import (
	"iter"

	"wharfinger/api"
	"wharfinger/books"
)

// attachmentsOf goes through a volume's attachments.
func attachmentsOf(all []api.Object, volume string) iter.Seq[api.Object] {
	return func(yield func(api.Object) bool) {
		for a := range books.There(all, api.Attach) {
			if a.Volume == volume && !yield(a) {
				return
			}
		}
	}
}

// nodesOf goes through the nodes of attachments.
func nodesOf(attachments []api.Object) iter.Seq[string] {
	return func(yield func(string) bool) {
		for _, a := range attachments {
			if !yield(a.Node) {
				return
			}
		}
	}
}

// nodesOfPods goes through the nodes of those pods that need one of some claims.
func nodesOfPods(all []api.Object, claims map[string]struct{}) iter.Seq[string] {
	return func(yield func(string) bool) {
		for p := range books.There(all, api.Pod) {
			_, needs := claims[p.Claim]
			if needs && p.Node != "" && !p.Deleting && !yield(p.Node) {
				return
			}
		}
	}
}

// claimsOf are the names of the claims that have a volume.
func claimsOf(all []api.Object, volume string) map[string]struct{} {
	claims := map[string]struct{}{}
	for c := range books.There(all, api.Claim) {
		if c.Phase == api.Bound && c.Volume == volume {
			claims[c.Name] = struct{}{}
		}
	}
	return claims
}
