package store

import (
	"slices"

	"wharfinger/api"
	"wharfinger/blocks"
	"wharfinger/codec"
	"wharfinger/object"
)

// put is the change that Put of an object is.
func (s *Store) put(o api.Object) (api.Event, api.Errno) {
	if !object.Right(o) {
		return api.Event{}, api.ErrForm
	}
	was, ok := s.objects[object.Key(o)]
	if o.Version != was.Version { // of none it is 0, which no object that is there has
		return api.Event{}, api.ErrConflict
	}
	if !ok && s.full() {
		return api.Event{}, api.ErrFull
	}
	o.Version = s.next()
	o.Born = o.Version
	if ok {
		o.Born = was.Born
	}
	o.Deleting = was.Deleting
	return api.Event{Version: o.Version, Object: o}, api.OK
}

// marked is the change by which an object is Deleting.
func (s *Store) marked(o api.Object) api.Event {
	o.Version = s.next()
	o.Deleting = true
	return api.Event{Version: o.Version, Object: o}
}

// taken is the change by which an object is taken away.
func (s *Store) taken(o api.Object) api.Event {
	return api.Event{Version: s.next(), Gone: true, Object: o}
}

// write lets a change last, and does it; with an error nothing changes.
func (s *Store) write(change api.Event) api.Errno {
	if e := record(s.log, change); e != api.OK {
		return e
	}
	s.log.Sync()
	s.do(change)
	return api.OK
}

// record writes a change behind a log.
func record(l *blocks.Log, change api.Event) api.Errno {
	b, e := codec.Change(change)
	if e != api.OK {
		return e
	}
	return l.Append(b)
}

// redo does the change that a record of the log says; false, if it can't be.
func (s *Store) redo(b []byte) bool {
	change, e := codec.ReadChange(b)
	if e != api.OK || !s.follows(change) {
		return false
	}
	s.do(change)
	return true
}

// follows tells whether a change may be the next one.
func (s *Store) follows(change api.Event) bool {
	o := change.Object
	was, ok := s.objects[object.Key(o)]
	switch {
	case change.Version != s.next():
		return false
	case change.Gone:
		return ok && o == was
	case ok:
		return o.Version == change.Version && o.Born == was.Born
	}
	return o.Version == change.Version && o.Born == o.Version && !s.full()
}

func (s *Store) do(change api.Event) {
	k := object.Key(change.Object)
	if change.Gone {
		delete(s.objects, k)
	} else {
		s.objects[k] = change.Object
	}
	s.changes = append(s.changes, change)
}

func (s *Store) next() uint64 {
	return s.Version() + 1
}

func (s *Store) full() bool {
	return len(s.objects) >= api.MaxObjects
}

// ordered are the objects that are asked for, in the order of their keys that is handed in.
func (s *Store) ordered(asked func(api.Object) bool, less func(a, b api.Key) bool) []api.Object {
	var l []api.Object
	for _, o := range s.objects {
		if asked(o) {
			l = append(l, o)
		}
	}
	slices.SortFunc(l, func(a, b api.Object) int {
		switch x, y := object.Key(a), object.Key(b); {
		case less(x, y):
			return -1
		case less(y, x):
			return 1
		}
		return 0
	})
	return l
}
