package driver

import (
	"wharfinger/api"
	"wharfinger/object"
)

// target is what a call is of: a volume and a snapshot of one name are two.
type target struct {
	isSnap bool
	name   string
}

// pastCall is a call that was done, and what it came to.
type pastCall struct {
	call   api.Call
	result api.Result
}

func targetOf(v api.Verb, name string) target {
	return target{v == api.Cut || v == api.Drop, name}
}

// Right tells whether a call is right.
func Right(c api.Call) bool {
	return object.Name(c.Target) && c.Num != 0 && inRange(c.Size) && c == named(c) && hasAll(c)
}

// named is a call with nothing but what its verb names: one that differs from it has more.
func named(c api.Call) api.Call {
	n := api.Call{Verb: c.Verb, Target: c.Target, Num: c.Num}
	switch c.Verb {
	case api.Create:
		n.Size, n.Zone, n.Source = c.Size, c.Zone, c.Source
	case api.Publish, api.Unpublish:
		n.Node = c.Node
	case api.Expand:
		n.Size = c.Size
	case api.Cut:
		n.Source = c.Source
	}
	return n
}

// hasAll tells whether a call is of a verb, and has what that needs.
func hasAll(c api.Call) bool {
	switch c.Verb {
	case api.Create:
		return c.Size != 0 && object.Name(c.Zone) && (c.Source == "" || object.Name(c.Source))
	case api.Erase, api.Drop:
		return true
	case api.Publish, api.Unpublish:
		return object.Name(c.Node)
	case api.Expand:
		return c.Size != 0
	case api.Cut:
		return object.Name(c.Source)
	}
	return false
}

func inRange(size int64) bool {
	return size >= 0 && size <= api.MaxSize
}

func failed(e api.Errno) api.Result {
	return api.Result{Err: e}
}
