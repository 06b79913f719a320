package script

import (
	"strconv"

	"wharfinger/api"
	"wharfinger/plane"
	"wharfinger/quant"
)

const (
	none      = "-" // what stands for nothing
	maxDigits = 9
	maxRounds = 200 // of run
)

// line is the words that are not read yet, and whether one that was asked for can't be.
type line struct {
	rest  []string
	wrong bool
}

// read is what the next word says.
func read[T any](l *line, says func(word string) (T, bool)) T {
	var x T
	ok := len(l.rest) > 0
	if ok {
		x, ok = says(l.rest[0])
		l.rest = l.rest[1:]
	}
	l.wrong = l.wrong || !ok
	return x
}

// choice is a word, and what it says.
type choice[T any] struct {
	word string
	says T
}

func oneOf[T any](word string, choices ...choice[T]) (T, bool) {
	for _, c := range choices {
		if c.word == word {
			return c.says, true
		}
	}
	var x T
	return x, false
}

// name takes any word: the plane tells whether it can be.
func name(word string) (string, bool) {
	return word, true
}

func nameOrNone(word string) (string, bool) {
	if word == none {
		return "", true
	}
	return word, true
}

func number(word string) (int, bool) {
	if len(word) > maxDigits || len(word) > 1 && word[0] == '0' {
		return 0, false
	}
	for _, r := range word {
		if r < '0' || r > '9' {
			return 0, false
		}
	}
	n, e := strconv.Atoi(word)
	return n, e == nil
}

func rounds(word string) (int, bool) {
	n, ok := number(word)
	if !ok || n < 1 || n > maxRounds {
		return 0, false
	}
	return n, true
}

func size(word string) (int64, bool) {
	n, e := quant.Parse(word)
	return n, e == api.OK
}

func mode(word string) (api.Mode, bool) {
	return oneOf(word,
		choice[api.Mode]{"one", api.Single},
		choice[api.Mode]{"many", api.Many})
}

// flags are those of a class.
type flags struct {
	wait, keep bool
}

func classFlags(word string) (flags, bool) {
	return oneOf(word,
		choice[flags]{none, flags{}},
		choice[flags]{"w", flags{wait: true}},
		choice[flags]{"k", flags{keep: true}},
		choice[flags]{"wk", flags{wait: true, keep: true}})
}

func keepFlag(word string) (bool, bool) {
	return oneOf(word,
		choice[bool]{none, false},
		choice[bool]{"k", true})
}

// madeKind is a kind of which users make objects.
func madeKind(word string) (api.Kind, bool) {
	return oneOf(word,
		choice[api.Kind]{"class", api.Class},
		choice[api.Kind]{"node", api.Node},
		choice[api.Kind]{"claim", api.Claim},
		choice[api.Kind]{"volume", api.Volume},
		choice[api.Kind]{"pod", api.Pod},
		choice[api.Kind]{"snap", api.Snapshot})
}

func anyKind(word string) (api.Kind, bool) {
	if word == "attach" {
		return api.Attach, true
	}
	return madeKind(word)
}

func part(word string) (plane.Part, bool) {
	return oneOf(word,
		choice[plane.Part]{"bind", plane.Binder},
		choice[plane.Part]{"attach", plane.Attacher},
		choice[plane.Part]{"data", plane.Keeper})
}

func replica(word string) (int, bool) {
	return oneOf(word,
		choice[int]{"0", 0},
		choice[int]{"1", 1})
}

func outcome(word string) (api.Outcome, bool) {
	return oneOf(word,
		choice[api.Outcome]{"done", api.Done},
		choice[api.Outcome]{"refused", api.Refused},
		choice[api.Outcome]{"latedone", api.LateDone},
		choice[api.Outcome]{"latelost", api.LateLost})
}
