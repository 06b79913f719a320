package object

import (
	"strings"

	"wharfinger/api"
)

// named is an object with nothing but what its kind names, and what all have: one that differs from it has more.
func named(o api.Object) api.Object {
	n := api.Object{Kind: o.Kind, Name: o.Name, Version: o.Version, Born: o.Born, Deleting: o.Deleting, Hold: o.Hold}
	switch o.Kind {
	case api.Class:
		n.Zone, n.Wait, n.Keep = o.Zone, o.Wait, o.Keep
	case api.Node:
		n.Zone = o.Zone
	case api.Claim:
		n.Class, n.Size, n.Got, n.Mode = o.Class, o.Size, o.Got, o.Mode
		n.Zone, n.Node, n.Volume, n.Source = o.Zone, o.Node, o.Volume, o.Source
		n.Phase, n.Num = o.Phase, o.Num
	case api.Volume:
		n.Class, n.Size, n.Got, n.Mode, n.Keep = o.Class, o.Size, o.Got, o.Mode, o.Keep
		n.Zone, n.Claim = o.Zone, o.Claim
		n.Phase, n.Num = o.Phase, o.Num
	case api.Attach:
		n.Volume, n.Node = o.Volume, o.Node
		n.Phase, n.Num = o.Phase, o.Num
	case api.Pod:
		n.Claim, n.Node = o.Claim, o.Node
	case api.Snapshot:
		n.Source, n.Volume, n.Got = o.Source, o.Volume, o.Got
		n.Phase, n.Num, n.Tag = o.Phase, o.Num, o.Tag
	}
	return n
}

// rightOfKind tells whether an object is one of a kind, and as just that kind asks.
func rightOfKind(o api.Object) bool {
	switch o.Kind {
	case api.Class:
		return true
	case api.Node:
		return noneEmpty(o.Zone) && noSlash(o.Name)
	case api.Claim:
		return rightClaim(o)
	case api.Volume:
		return rightVolume(o)
	case api.Attach:
		return rightAttach(o)
	case api.Pod:
		return noneEmpty(o.Claim)
	case api.Snapshot:
		return noneEmpty(o.Source) && oneOf(o.Phase, api.Pending, api.Cutting, api.Ready, api.Erasing)
	}
	return false
}

func rightClaim(o api.Object) bool {
	return noneEmpty(o.Class) && o.Size != 0 && rightMode(o.Mode) &&
		oneOf(o.Phase, api.Pending, api.Creating, api.Bound) &&
		noneEmpty(o.Volume) == (o.Phase == api.Bound)
}

func rightVolume(o api.Object) bool {
	belongs := o.Phase == api.Bound || o.Phase == api.Released
	return noneEmpty(o.Class, o.Zone) && o.Size != 0 && o.Got != 0 && rightMode(o.Mode) &&
		oneOf(o.Phase, api.Available, api.Bound, api.Released, api.Erasing) &&
		(noneEmpty(o.Claim) || !belongs)
}

func rightAttach(o api.Object) bool {
	return noneEmpty(o.Volume, o.Node) && noSlash(o.Node) && o.Name == AttachName(o.Volume, o.Node) &&
		oneOf(o.Phase, api.Attaching, api.Attached, api.Detaching)
}

func rightMode(m api.Mode) bool {
	return m == api.Single || m == api.Many
}

func inRange(size int64) bool {
	return size >= 0 && size <= api.MaxSize
}

func noSlash(s string) bool {
	return !strings.Contains(s, "/")
}

func oneOf(phase api.Phase, phases ...api.Phase) bool {
	for _, p := range phases {
		if p == phase {
			return true
		}
	}
	return false
}

func namesOrEmpty(texts ...string) bool {
	for _, s := range texts {
		if s != "" && !Name(s) {
			return false
		}
	}
	return true
}

func allEmpty(texts ...string) bool {
	for _, s := range texts {
		if s != "" {
			return false
		}
	}
	return true
}

func noneEmpty(texts ...string) bool {
	for _, s := range texts {
		if s == "" {
			return false
		}
	}
	return true
}
