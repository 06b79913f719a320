package lease

import "wharfinger/api"

// givenUp is what a step panics with that ends early.
type givenUp struct {
	why api.Errno
}

// must gives a step up, where it may not go on.
func must(may bool, why api.Errno) {
	if !may {
		panic(givenUp{why})
	}
}

// step is the lease that a step comes to, or why it was given up.
func step(do func() Lease) (l Lease, e api.Errno) {
	defer func() {
		switch p := recover().(type) {
		case nil:
		case givenUp:
			l, e = Lease{}, p.why
		default:
			panic(p) // a fault of the program: not to be taken for a step that was given up
		}
	}()
	return do(), api.OK
}
