package topo

import (
	"strings"

	"wharfinger/api"
	"wharfinger/texts"
)

// readText reads a text of labels or of terms: such as read tells, whose keys rise. The empty text has none.
func readText[T any](s string, read func(string) (T, bool), key func(T) string) ([]T, api.Errno) {
	if s == "" {
		return nil, api.OK
	}
	l, ok := readList(s, ',', api.MaxTerms, read, key)
	if !ok {
		return nil, api.ErrForm
	}
	return l, api.OK
}

func printText[T any](l []T, print func(T) (string, bool), key func(T) string) (string, api.Errno) {
	s, ok := printList(l, ',', api.MaxTerms, print, key)
	if !ok {
		return "", api.ErrForm
	}
	return s, api.OK
}

// readList reads what stands between marks, if it is not more than most, and its keys rise.
func readList[T any](s string, mark rune, most int, read func(string) (T, bool), key func(T) string) ([]T, bool) {
	var l []T
	for part := range texts.Cut(s, mark) {
		x, ok := read(part)
		if !ok || len(l) == most || len(l) > 0 && key(x) <= key(l[len(l)-1]) {
			return nil, false
		}
		l = append(l, x)
	}
	return l, true
}

// printList is the text of which readList makes the list, if there is one.
func printList[T any](l []T, mark rune, most int, print func(T) (string, bool), key func(T) string) (string, bool) {
	if len(l) > most {
		return "", false
	}
	var b strings.Builder
	for i, x := range l {
		part, ok := print(x)
		if !ok || i > 0 && key(x) <= key(l[i-1]) {
			return "", false
		}
		if i > 0 {
			b.WriteRune(mark)
		}
		b.WriteString(part)
	}
	return b.String(), true
}

// pair is what stands ahead of the first = of a text, and behind it.
func pair(s string) (string, string, bool) {
	for i, r := range s {
		if r == '=' {
			return s[:i], s[i+1:], true
		}
	}
	return "", "", false
}

func readLabel(s string) (Label, bool) {
	key, value, ok := pair(s)
	if !ok || !Word(key) || !Word(value) {
		return Label{}, false
	}
	return Label{key, value}, true
}

func printLabel(x Label) (string, bool) {
	if !Word(x.Key) || !Word(x.Value) {
		return "", false
	}
	return x.Key + "=" + x.Value, true
}

func labelKey(x Label) string { return x.Key }

func readTerm(s string) (Term, bool) {
	key, text, ok := pair(s)
	if !ok || !Word(key) {
		return Term{}, false
	}
	values, ok := readList(text, '|', api.MaxValues, value, itself)
	if !ok {
		return Term{}, false
	}
	return Term{key, values}, true
}

func printTerm(x Term) (string, bool) {
	if !Word(x.Key) || len(x.Values) == 0 {
		return "", false
	}
	text, ok := printList(x.Values, '|', api.MaxValues, value, itself)
	if !ok {
		return "", false
	}
	return x.Key + "=" + text, true
}

func termKey(x Term) string { return x.Key }

// value reads a value, and prints it: its text is the value.
func value(s string) (string, bool) { return s, Word(s) }

func itself(s string) string { return s }
