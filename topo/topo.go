// Package topo is labels, and what is asked of them. See ../../shared/doc/02-topo.md.
package topo

import (
	"slices"

	"wharfinger/api"
)

const maxWord = 24 // bytes

// Label is one; Term is one key that must have one of some values.
type Label struct {
	Key, Value string
}

type Term struct {
	Key    string
	Values []string
}

// Word tells whether a text may be a key or a value.
func Word(s string) bool {
	if len(s) < 1 || len(s) > maxWord {
		return false
	}
	for _, r := range s {
		if !wordRune(r) {
			return false
		}
	}
	return true
}

// Labels are what a text says; PrintLabels their text.
func Labels(s string) ([]Label, api.Errno) {
	return readText(s, readLabel, labelKey)
}

func PrintLabels(l []Label) (string, api.Errno) {
	return printText(l, printLabel, labelKey)
}

// Parse is what a selector's text says; Print its text.
func Parse(s string) ([]Term, api.Errno) {
	return readText(s, readTerm, termKey)
}

func Print(l []Term) (string, api.Errno) {
	return printText(l, printTerm, termKey)
}

// Match tells whether labels are as a selector asks.
func Match(sel []Term, l []Label) bool {
	for _, term := range sel {
		asked := func(x Label) bool {
			return x.Key == term.Key && slices.Contains(term.Values, x.Value)
		}
		if !slices.ContainsFunc(l, asked) {
			return false
		}
	}
	return true
}

// Narrow is a selector that asks what both ask.
func Narrow(a, b []Term) ([]Term, api.Errno) {
	if !selector(a) || !selector(b) {
		return nil, api.ErrForm
	}
	l, ok := both(a, b)
	if !ok {
		return nil, api.ErrNone
	}
	if len(l) > api.MaxTerms {
		return nil, api.ErrForm
	}
	return l, api.OK
}

// SameTerms, SameLabels tell whether two are the same.
func SameTerms(a, b []Term) bool {
	return slices.EqualFunc(a, b, func(x, y Term) bool {
		return x.Key == y.Key && slices.Equal(x.Values, y.Values)
	})
}

func SameLabels(a, b []Label) bool {
	return slices.Equal(a, b)
}

func wordRune(r rune) bool {
	return 'a' <= r && r <= 'z' || '0' <= r && r <= '9' || r == '-'
}

func selector(l []Term) bool {
	_, e := Print(l)
	return e == api.OK
}

// both are the terms of two selectors, by their keys; false, if of one no value is left.
func both(a, b []Term) ([]Term, bool) {
	var l []Term
	for len(a) > 0 && len(b) > 0 {
		switch x, y := a[0], b[0]; {
		case x.Key < y.Key:
			l = append(l, cloned(x))
			a = a[1:]
		case x.Key > y.Key:
			l = append(l, cloned(y))
			b = b[1:]
		default:
			values := common(x.Values, y.Values)
			if len(values) == 0 {
				return nil, false
			}
			l = append(l, Term{x.Key, values})
			a, b = a[1:], b[1:]
		}
	}
	for _, x := range a {
		l = append(l, cloned(x))
	}
	for _, y := range b {
		l = append(l, cloned(y))
	}
	return l, true
}

// cloned is a term whose values lie in no other one's.
func cloned(x Term) Term {
	return Term{x.Key, slices.Clone(x.Values)}
}

func common(a, b []string) []string {
	var l []string
	for _, v := range a {
		if slices.Contains(b, v) {
			l = append(l, v)
		}
	}
	return l
}
