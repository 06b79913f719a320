package lease

import "wharfinger/api"

// Guard lets only the newest term act.
type Guard struct {
	term uint64
}

// NewGuard is one that has seen no term; Check tells whether a term may act; Term is the newest one; Fork another one with the same.
func NewGuard() *Guard {
	return &Guard{}
}

func (g *Guard) Check(term uint64) api.Errno {
	if g == nil {
		return api.ErrNil
	}
	if term < g.term {
		return api.ErrStale
	}
	g.term = term
	return api.OK
}

func (g *Guard) Term() uint64 {
	if g == nil {
		return 0
	}
	return g.term
}

func (g *Guard) Fork() *Guard {
	if g == nil {
		return nil
	}
	return &Guard{g.term}
}
