package script

import (
	"strconv"
	"strings"

	"wharfinger/api"
	"wharfinger/quant"
)

func told(e api.Errno) string {
	if e != api.OK {
		return "error " + strconv.Itoa(int(e))
	}
	return "ok"
}

func toldAct(a api.Act, e api.Errno) string {
	if e != api.OK {
		return told(e)
	}
	return "ok " + doWord(a.Do)
}

func doWord(d api.Do) string {
	switch d {
	case api.Write:
		return "write"
	case api.Remove:
		return "remove"
	case api.Ask:
		return "ask"
	}
	return "nothing"
}

// shown are the objects of a kind; they come by their names.
func shown(all []api.Object, kind api.Kind) string {
	var l []string
	for _, o := range all {
		if o.Kind == kind {
			l = append(l, spaced(o.Name, phaseWord(o.Phase), printed(o.Got), orNone(o.Volume)))
		}
	}
	return joined(l)
}

func shownDriver(volumes []api.DriverVolume, snaps []api.DriverSnap) string {
	var l []string
	for _, v := range volumes {
		l = append(l, spaced(append([]string{v.Name, printed(v.Size), v.Zone}, v.Nodes...)...))
	}
	for _, s := range snaps {
		l = append(l, spaced(s.Name, strconv.FormatUint(s.Tag, 10)))
	}
	return joined(l)
}

func spaced(l ...string) string {
	return strings.Join(l, " ")
}

// joined are lines, one below the other.
func joined(l []string) string {
	if len(l) == 0 {
		return "none"
	}
	return strings.Join(l, "\n")
}

// printed is a size that is there: none of them is out of range.
func printed(n int64) string {
	s, _ := quant.Print(n)
	return s
}

func orNone(s string) string {
	if s == "" {
		return none
	}
	return s
}

func phaseWord(phase api.Phase) string {
	switch phase {
	case api.Pending:
		return "pending"
	case api.Creating:
		return "creating"
	case api.Bound:
		return "bound"
	case api.Available:
		return "available"
	case api.Released:
		return "released"
	case api.Erasing:
		return "erasing"
	case api.Attaching:
		return "attaching"
	case api.Attached:
		return "attached"
	case api.Detaching:
		return "detaching"
	case api.Cutting:
		return "cutting"
	case api.Ready:
		return "ready"
	}
	return none
}
