package plane

import (
	"strconv"

	"wharfinger/api"
	"wharfinger/lease"
	"wharfinger/object"
	"wharfinger/store"
	"wharfinger/watch"
	"wharfinger/workq"
)

const replicas = 2 // of a controller

// team is the replicas of a controller, and which of them may act.
type team struct {
	lease    lease.Lease
	guard    *lease.Guard
	replicas [replicas]replica
}

// replica is one that acts by what it has seen, and by what waits for it.
type replica struct {
	*watch.Cache
	*workq.Queue
}

func newTeam() team {
	return team{guard: lease.NewGuard(), replicas: newReplicas()}
}

func newReplicas() [replicas]replica {
	var l [replicas]replica
	for i := range l {
		l[i] = newReplica()
	}
	return l
}

func newReplica() replica {
	return replica{watch.New(), workq.New()}
}

// nameOf is who a replica is to a lease.
func nameOf(replica int) string {
	return "r" + strconv.Itoa(replica)
}

func (t *team) elect(replica int, now uint64) api.Errno {
	l, e := lease.Try(t.lease, nameOf(replica), now, span)
	if e != api.OK {
		return e
	}
	t.lease = l
	return api.OK
}

// may tells whether a replica may act.
func (t *team) may(replica int, now uint64) api.Errno {
	if !lease.Mine(t.lease, nameOf(replica), now) {
		return api.ErrHeld
	}
	return t.guard.Check(t.lease.Term)
}

func (t *team) fork() team {
	f := team{lease: t.lease, guard: t.guard.Fork()}
	for i, r := range t.replicas {
		f.replicas[i] = replica{r.Cache.Fork(), r.Queue.Fork()}
	}
	return f
}

// see takes in what has changed. Whatever it was, any object may have something to be done now.
func (r replica) see(s *store.Store, does controller) {
	changes := s.Since(r.Version())
	if len(changes) == 0 {
		return
	}
	r.Cache.Take(changes)
	r.addAll(does)
}

// seeAnew takes in all that is there.
func (r replica) seeAnew(s *store.Store, does controller) {
	r.Reset(s.All(), s.Version())
	r.addAll(does)
}

// addAll lets the keys wait of all that is seen and that a controller looks after. What has no room is Added with the next change.
func (r replica) addAll(does controller) {
	for _, o := range r.All() {
		if does.looksAfter(o.Kind) {
			r.Add(object.Key(o))
		}
	}
}
