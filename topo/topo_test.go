package topo_test

import (
	"slices"
	"strconv"
	"strings"
	"testing"

	"wharfinger/api"
	"wharfinger/topo"
)

const longest = "abcdefghijklmnopqrstuvwx" // 24 bytes

// words are so many, rising.
func words(n int) []string {
	var l []string
	for i := range n {
		l = append(l, "w"+strconv.Itoa(10+i))
	}
	return l
}

func labels(keys ...string) []topo.Label {
	var l []topo.Label
	for _, k := range keys {
		l = append(l, topo.Label{Key: k, Value: "v"})
	}
	return l
}

func terms(keys ...string) []topo.Term {
	var l []topo.Term
	for _, k := range keys {
		l = append(l, topo.Term{Key: k, Values: []string{"v"}})
	}
	return l
}

func parsed(t *testing.T, s string) []topo.Term {
	t.Helper()
	l, e := topo.Parse(s)
	if e != api.OK {
		t.Fatalf("Parse(%q): %d", s, e)
	}
	return l
}

// P2.1
func TestWord(t *testing.T) {
	for _, s := range []string{"a", "z", "0", "9", "-", "--", "-a", "a-", "zone", "rack-1", "007", "a0-", longest} {
		if !topo.Word(s) {
			t.Errorf("Word(%q)", s)
		}
	}
	for _, s := range []string{
		"", longest + "y", longest + longest, "A", "Z", "aB", "a b", " a", "a ", "a.b", "a/b", "a_b", "a=b", "a,b", "a|b",
		"`", "{", "/", ":", "+", ".", "\x00", "a\x00", "\xff", "a\xff", "\u00e9", "\uff41", "\u0661", "a\n", strings.Repeat("a", 1000),
	} {
		if topo.Word(s) {
			t.Errorf("Word(%q)", s)
		}
	}
	for b := range 256 {
		want := b >= 'a' && b <= 'z' || b >= '0' && b <= '9' || b == '-'
		if topo.Word(string([]byte{byte(b)})) != want || topo.Word(string([]byte{'a', byte(b), 'a'})) != want {
			t.Errorf("Word of the byte %d", b)
		}
	}
}

var rightLabels = []struct {
	text string
	list []topo.Label
}{
	{"", nil},
	{"zone=b", []topo.Label{{"zone", "b"}}},
	{"rack=1,zone=b", []topo.Label{{"rack", "1"}, {"zone", "b"}}},
	{"a=z,b=y,c=z", []topo.Label{{"a", "z"}, {"b", "y"}, {"c", "z"}}},
	{"-=a,0=a,a=a", []topo.Label{{"-", "a"}, {"0", "a"}, {"a", "a"}}},
	{"a=a,a-=a,a0=a,aa=a", []topo.Label{{"a", "a"}, {"a-", "a"}, {"a0", "a"}, {"aa", "a"}}},
	{"10=1,9=1", []topo.Label{{"10", "1"}, {"9", "1"}}},
	{longest + "=" + longest, []topo.Label{{longest, longest}}},
	{"w10=v,w11=v,w12=v,w13=v,w14=v,w15=v,w16=v,w17=v", labels(words(8)...)},
}

// P2.1, P2.3
func TestLabels(t *testing.T) {
	for _, c := range rightLabels {
		if l, e := topo.Labels(c.text); e != api.OK || !slices.Equal(l, c.list) {
			t.Errorf("Labels(%q) = %v, %d", c.text, l, e)
		}
		if s, e := topo.PrintLabels(c.list); e != api.OK || s != c.text {
			t.Errorf("PrintLabels(%v) = %q, %d", c.list, s, e)
		}
	}
	if s, e := topo.PrintLabels([]topo.Label{}); s != "" || e != api.OK {
		t.Error(s, e)
	}
}

// wrongTexts are those of neither labels nor selectors.
var wrongTexts = []string{
	"zone", "=", "zone=", "=a", "=,", ",", ",,", "zone=a,", ",zone=a", "a=1,,b=1", "|", "a|b", "a=|", "a==b", "a=b=c", "a=b=", "=a=b",
	"zone=a,rack=1", "a=1,a=1", "a=1,a=2", "a=1,b=1,a=1", "b=1,a=1,c=1", "9=1,10=1", "a=1,-=1", "aa=1,a=1",
	"Zone=a", "zone=A", "zone=a b", " zone=a", "zone=a ", "zone= a", "zone =a", "zone=a, zone=b", "a=1, b=1", "a=1;b=1", "a:1",
	"\xff", "a=\xff", "\xff=a", "a=1,b=\xff", "a=1\x00", "\u00e9=1", "a=\u00e9", "a=1\n", "\n", " ",
	longest + "y=a", "a=" + longest + "y",
	"w10=v,w11=v,w12=v,w13=v,w14=v,w15=v,w16=v,w17=v,w18=v",
	strings.Repeat(",", 1000), strings.Repeat("a", 1000),
}

// P2.1
func TestLabelsWrong(t *testing.T) {
	for _, s := range append([]string{"zone=a|b", "rack=1,zone=a|b", "a=1|"}, wrongTexts...) {
		if l, e := topo.Labels(s); l != nil || e != api.ErrForm {
			t.Errorf("Labels(%q) = %v, %d", s, l, e)
		}
	}
}

// P2.1
func TestPrintLabelsWrong(t *testing.T) {
	for _, l := range [][]topo.Label{
		{{}}, {{"a", ""}}, {{"", "a"}}, {{"A", "a"}}, {{"a", "A"}}, {{"a=", "b"}}, {{"a", "b,c=d"}}, {{"a", "b|c"}}, {{"a", "\xff"}},
		{{longest + "y", "a"}}, {{"a", longest + "y"}},
		{{"a", "1"}, {"a", "1"}}, {{"a", "1"}, {"a", "2"}}, {{"b", "1"}, {"a", "2"}}, {{"9", "1"}, {"10", "1"}}, {{"a", "1"}, {"b", ""}},
		{{"a", "1"}, {"c", "1"}, {"b", "1"}},
		labels(words(9)...), labels(words(100)...),
	} {
		if s, e := topo.PrintLabels(l); s != "" || e != api.ErrForm {
			t.Errorf("PrintLabels(%v) = %q, %d", l, s, e)
		}
	}
}

var rightTerms = []struct {
	text string
	list []topo.Term
}{
	{"", nil},
	{"zone=a", []topo.Term{{"zone", []string{"a"}}}},
	{"zone=a|b", []topo.Term{{"zone", []string{"a", "b"}}}},
	{"rack=1,zone=a|b", []topo.Term{{"rack", []string{"1"}}, {"zone", []string{"a", "b"}}}},
	{"a=y|z,b=a", []topo.Term{{"a", []string{"y", "z"}}, {"b", []string{"a"}}}},
	{"a=-|0|10|9|a|a-|aa", []topo.Term{{"a", []string{"-", "0", "10", "9", "a", "a-", "aa"}}}},
	{longest + "=" + longest, []topo.Term{{longest, []string{longest}}}},
	{"a=w10|w11|w12|w13|w14|w15|w16|w17", []topo.Term{{"a", words(8)}}},
	{"w10=v,w11=v,w12=v,w13=v,w14=v,w15=v,w16=v,w17=v", terms(words(8)...)},
}

// P2.1, P2.3
func TestParse(t *testing.T) {
	for _, c := range rightTerms {
		if l, e := topo.Parse(c.text); e != api.OK || !sameTerms(l, c.list) {
			t.Errorf("Parse(%q) = %v, %d", c.text, l, e)
		}
		if s, e := topo.Print(c.list); e != api.OK || s != c.text {
			t.Errorf("Print(%v) = %q, %d", c.list, s, e)
		}
	}
	if s, e := topo.Print([]topo.Term{}); s != "" || e != api.OK {
		t.Error(s, e)
	}
}

// sameTerms is the tests' own, not to lean on what is tested.
func sameTerms(a, b []topo.Term) bool {
	return slices.EqualFunc(a, b, func(x, y topo.Term) bool { return x.Key == y.Key && slices.Equal(x.Values, y.Values) })
}

// P2.1
func TestParseWrong(t *testing.T) {
	more := []string{
		"zone=b|a", "zone=a|a", "zone=a|c|b", "zone=a|b|a", "zone=|a", "zone=a|", "zone=a||b", "zone=|", "zone=a|B", "zone=a| b",
		"zone=9|10", "zone=aa|a", "zone=a|\xff", "zone=a|b=c", "zone=a|b,", "zone=a|b,rack=1", "a=1|2,a=3", "a|b=c",
		"a=w10|w11|w12|w13|w14|w15|w16|w17|w18", "a=a|" + longest + "y", "a=1|2,b=2|1", "a=2|1,b=1|2",
	}
	for _, s := range append(more, wrongTexts...) {
		if l, e := topo.Parse(s); l != nil || e != api.ErrForm {
			t.Errorf("Parse(%q) = %v, %d", s, l, e)
		}
	}
}

// wrongTerms are no selectors.
func wrongTerms() [][]topo.Term {
	return [][]topo.Term{
		{{}}, {{"a", nil}}, {{"a", []string{}}}, {{"a", []string{""}}}, {{"", []string{"a"}}}, {{"A", []string{"a"}}}, {{"a", []string{"A"}}},
		{{"a=", []string{"a"}}}, {{"a", []string{"b|c"}}}, {{"a", []string{"b,c"}}}, {{"a", []string{"b", ""}}}, {{"a", []string{"", "b"}}},
		{{longest + "y", []string{"a"}}}, {{"a", []string{longest + "y"}}},
		{{"a", []string{"a", "a"}}}, {{"a", []string{"b", "a"}}}, {{"a", []string{"a", "c", "b"}}}, {{"a", []string{"9", "10"}}},
		{{"a", words(9)}}, {{"a", words(100)}},
		terms("a", "a"), terms("b", "a"), terms("a", "c", "b"), terms("9", "10"), terms(words(9)...), terms(words(100)...),
		{{"a", []string{"a"}}, {"b", nil}}, {{"a", nil}, {"b", []string{"a"}}},
	}
}

// P2.1
func TestPrintWrong(t *testing.T) {
	for _, l := range wrongTerms() {
		if s, e := topo.Print(l); s != "" || e != api.ErrForm {
			t.Errorf("Print(%v) = %q, %d", l, s, e)
		}
	}
}

// P2.2
func TestMatch(t *testing.T) {
	for _, c := range []struct {
		sel    []topo.Term
		labels []topo.Label
		want   bool
	}{
		{nil, nil, true},
		{nil, labels("a"), true},
		{terms("a"), nil, false},
		{terms("a"), labels("a"), true},
		{terms("a"), labels("b"), false},
		{terms("a", "b"), labels("a", "b"), true},
		{terms("a", "b"), labels("a"), false},
		{terms("a", "b"), labels("b"), false},
		{terms("b"), labels("a", "b", "c"), true},
		{[]topo.Term{{"zone", []string{"a", "b"}}}, []topo.Label{{"zone", "a"}}, true},
		{[]topo.Term{{"zone", []string{"a", "b"}}}, []topo.Label{{"zone", "b"}}, true},
		{[]topo.Term{{"zone", []string{"a", "b"}}}, []topo.Label{{"zone", "c"}}, false},
		{[]topo.Term{{"zone", []string{"a", "b"}}}, []topo.Label{{"rack", "1"}}, false},
		{[]topo.Term{{"zone", []string{"a"}}}, []topo.Label{{"rack", "a"}, {"zone", "b"}}, false}, // a value of another key
		{[]topo.Term{{"zone", []string{"a"}}}, []topo.Label{{"zone", "ab"}}, false},
		{[]topo.Term{{"zone", []string{"ab"}}}, []topo.Label{{"zone", "a"}}, false},
		// What no text says is held against each other all the same.
		{[]topo.Term{{"a", nil}}, labels("a"), false},
		{[]topo.Term{{"", []string{""}}}, []topo.Label{{}}, true},
		{[]topo.Term{{"B", []string{"z", "a"}}}, []topo.Label{{"c", "a"}, {"B", "a"}, {"a", "a"}}, true},
		{[]topo.Term{{"a", []string{"2"}}}, []topo.Label{{"a", "1"}, {"a", "2"}}, true},
		{[]topo.Term{{"a", []string{"1"}}, {"a", []string{"2"}}}, []topo.Label{{"a", "1"}, {"a", "2"}}, true},
		{[]topo.Term{{"a", []string{"1"}}, {"a", []string{"2"}}}, []topo.Label{{"a", "1"}}, false},
		{terms(words(20)...), labels(words(20)...), true},
		{terms(words(20)...), labels(words(19)...), false},
	} {
		if ok := topo.Match(c.sel, c.labels); ok != c.want {
			t.Errorf("Match(%v, %v) = %v", c.sel, c.labels, ok)
		}
	}
}

// P2.2
func TestNarrow(t *testing.T) {
	for _, c := range []struct{ a, b, want string }{
		{"", "", ""},
		{"a=1", "", "a=1"},
		{"", "a=1|2", "a=1|2"},
		{"a=1", "a=1", "a=1"},
		{"a=1", "b=1", "a=1,b=1"},
		{"b=1", "a=1", "a=1,b=1"},
		{"zone=a|b", "zone=b|c", "zone=b"},
		{"zone=a|b|c|d", "zone=b|d|e", "zone=b|d"},
		{"a=1,c=3,e=5", "b=2,d=4", "a=1,b=2,c=3,d=4,e=5"},
		{"a=1,c=3|4", "b=2,c=2|4,d=4", "a=1,b=2,c=4,d=4"},
		{"9=1", "10=1", "10=1,9=1"},
		{"a=1,b=1,c=1,d=1", "e=1,f=1,g=1,h=1", "a=1,b=1,c=1,d=1,e=1,f=1,g=1,h=1"},
		{"a=1,b=1,c=1,d=1,e=1,f=1,g=1,h=1|2", "a=1|2,h=1", "a=1,b=1,c=1,d=1,e=1,f=1,g=1,h=1"},
		{"a=1,b=1,c=1,d=1,e=1,f=1,g=1,h=1", "", "a=1,b=1,c=1,d=1,e=1,f=1,g=1,h=1"},
	} {
		a, b := parsed(t, c.a), parsed(t, c.b)
		for _, l := range [][2][]topo.Term{{a, b}, {b, a}} {
			n, e := topo.Narrow(l[0], l[1])
			if e != api.OK || !sameTerms(n, parsed(t, c.want)) {
				t.Errorf("Narrow(%v, %v) = %v, %d; want %s", l[0], l[1], n, e, c.want)
			}
		}
	}
}

// P2.2
func TestNarrowWrong(t *testing.T) {
	for _, c := range []struct {
		a, b string
		want api.Errno
	}{
		{"a=1", "a=2", api.ErrNone},
		{"a=1|3", "a=2|4", api.ErrNone},
		{"a=1,b=1", "a=1,b=2", api.ErrNone},
		{"a=1,b=1", "a=2,b=1", api.ErrNone},
		{"a=1,b=1,c=1,d=1,e=1", "f=1,g=1,h=1,i=1", api.ErrForm},
		{"a=1,b=1,c=1,d=1,e=1,f=1,g=1,h=1", "i=1", api.ErrForm},
		{"a=1,b=1,c=1,d=1,e=1,f=1,g=1,h=1", "h=1,i=1", api.ErrForm},
		{"a=1,b=1,c=1,d=1,e=1,f=1,g=1,h=1", "h=2,i=1", api.ErrNone}, // ahead of too many terms
		{"a=1,b=1,c=1,d=1,e=1,f=1,g=1,z=1", "h=1,i=1,j=1,z=2", api.ErrNone},
	} {
		a, b := parsed(t, c.a), parsed(t, c.b)
		for _, l := range [][2][]topo.Term{{a, b}, {b, a}} {
			if n, e := topo.Narrow(l[0], l[1]); n != nil || e != c.want {
				t.Errorf("Narrow(%v, %v) = %v, %d; want %d", l[0], l[1], n, e, c.want)
			}
		}
	}
	for _, wrong := range wrongTerms() {
		for _, right := range [][]topo.Term{nil, terms("a"), {{"a", []string{"no-such"}}}} {
			for _, l := range [][2][]topo.Term{{wrong, right}, {right, wrong}, {wrong, wrong}} {
				if n, e := topo.Narrow(l[0], l[1]); n != nil || e != api.ErrForm {
					t.Errorf("Narrow(%v, %v) = %v, %d", l[0], l[1], n, e)
				}
			}
		}
	}
}

// P2.2
func TestSameTerms(t *testing.T) {
	lists := [][]topo.Term{
		nil, {{}}, {{"a", nil}}, {{"", []string{"a"}}}, terms("a"), terms("b"), terms("a", "b"), terms("b", "a"), terms("a", "a"),
		{{"a", []string{"v", "w"}}}, {{"a", []string{"w", "v"}}}, {{"a", []string{"w"}}}, {{"a", []string{"v", "v"}}},
		{{"a", []string{"v"}}, {"b", []string{"v", "w"}}}, {{"a", []string{"v", "w"}}, {"b", []string{"v"}}}, {{"av", nil}}, {{"a", []string{""}}},
	}
	for i, a := range lists {
		for j, b := range lists {
			if topo.SameTerms(a, b) != (i == j) {
				t.Errorf("SameTerms(%v, %v) = %v", a, b, i != j)
			}
		}
	}
	if !topo.SameTerms(nil, []topo.Term{}) || !topo.SameTerms([]topo.Term{}, nil) {
		t.Error("an empty list")
	}
	if !topo.SameTerms([]topo.Term{{"a", nil}}, []topo.Term{{"a", []string{}}}) {
		t.Error("an empty list of values")
	}
	if !topo.SameTerms(parsed(t, "a=1,b=2|3"), parsed(t, "a=1,b=2|3")) {
		t.Error("two that were parsed")
	}
}

// P2.2
func TestSameLabels(t *testing.T) {
	lists := [][]topo.Label{
		nil, {{}}, labels("a"), labels("b"), labels("a", "b"), labels("b", "a"), labels("a", "a"), {{"a", "w"}}, {{"a", ""}}, {{"", "v"}}, {{"v", "a"}},
		{{"a", "v"}, {"b", "w"}}, labels("a", "b", "c"),
	}
	for i, a := range lists {
		for j, b := range lists {
			if topo.SameLabels(a, b) != (i == j) {
				t.Errorf("SameLabels(%v, %v) = %v", a, b, i != j)
			}
		}
	}
	if !topo.SameLabels(nil, []topo.Label{}) || !topo.SameLabels([]topo.Label{}, nil) {
		t.Error("an empty list")
	}
	if !topo.SameLabels(labels("a", "b"), labels("a", "b")) {
		t.Error("two that were made")
	}
}

// selectors are all of the keys a, b, c with the values 1, 2, 3.
func selectors() [][]topo.Term {
	some := [][]string{nil, {"1"}, {"2"}, {"3"}, {"1", "2"}, {"1", "3"}, {"2", "3"}, {"1", "2", "3"}}
	var all [][]topo.Term
	for i := range len(some) * len(some) * len(some) {
		var l []topo.Term
		for _, k := range []string{"a", "b", "c"} {
			if v := some[i%len(some)]; v != nil {
				l = append(l, topo.Term{Key: k, Values: v})
			}
			i /= len(some)
		}
		all = append(all, l)
	}
	return all
}

// everyLabels are all of the keys a, b, c with the values 1, 2, 3.
func everyLabels() [][]topo.Label {
	var all [][]topo.Label
	for i := range 64 {
		var l []topo.Label
		for _, k := range []string{"a", "b", "c"} {
			if v := i % 4; v != 0 {
				l = append(l, topo.Label{Key: k, Value: strconv.Itoa(v)})
			}
			i /= 4
		}
		all = append(all, l)
	}
	return all
}

// P2.3
func TestParseOfPrint(t *testing.T) {
	for _, l := range selectors() {
		s, e := topo.Print(l)
		if e != api.OK {
			t.Fatalf("Print(%v): %d", l, e)
		}
		if back, e := topo.Parse(s); e != api.OK || !sameTerms(back, l) {
			t.Errorf("Parse(Print(%v) = %q) = %v, %d", l, s, back, e)
		}
	}
	for _, l := range everyLabels() {
		s, e := topo.PrintLabels(l)
		if e != api.OK {
			t.Fatalf("PrintLabels(%v): %d", l, e)
		}
		if back, e := topo.Labels(s); e != api.OK || !slices.Equal(back, l) {
			t.Errorf("Labels(PrintLabels(%v) = %q) = %v, %d", l, s, back, e)
		}
	}
}

// P2.4
func TestMatchOfNarrow(t *testing.T) {
	all, every := selectors(), everyLabels()
	for i, a := range all {
		for j := i % 7; j < len(all); j += 7 {
			b := all[j]
			n, e := topo.Narrow(a, b)
			if e != api.OK && e != api.ErrNone {
				t.Fatalf("Narrow(%v, %v): %d", a, b, e)
			}
			for _, l := range every {
				want := topo.Match(a, l) && topo.Match(b, l)
				if got := e == api.OK && topo.Match(n, l); got != want {
					t.Fatalf("Narrow(%v, %v) = %v, %d: of %v", a, b, n, e, l)
				}
			}
		}
	}
}

// roomy is a copy of a list with room behind its end that is filled.
func roomy[T any](l []T, fill T) []T {
	r := make([]T, len(l), len(l)+3)
	copy(r, l)
	for i := range r[len(l):cap(r)] {
		r[:cap(r)][len(l)+i] = fill
	}
	return r
}

func roomyTerms(l []topo.Term) []topo.Term {
	r := roomy(l, topo.Term{Key: "room"})
	for i := range r {
		r[i].Values = roomy(r[i].Values, "room")
	}
	return r
}

// P3: what is handed in stays as it is, the room behind it too.
func TestHandedInStays(t *testing.T) {
	a := roomyTerms([]topo.Term{{"a", []string{"1", "2"}}, {"c", []string{"1"}}})
	b := roomyTerms([]topo.Term{{"a", []string{"2", "3"}}, {"b", []string{"1"}}})
	l := roomy([]topo.Label{{"a", "1"}, {"c", "1"}}, topo.Label{Key: "room"})
	topo.Narrow(a, b)
	topo.Narrow(b, a)
	topo.Narrow(a, nil)
	topo.Print(a)
	topo.PrintLabels(l)
	topo.Match(a, l)
	topo.SameTerms(a, b)
	topo.SameLabels(l, l)
	if !sameTerms(a, []topo.Term{{"a", []string{"1", "2"}}, {"c", []string{"1"}}}) || !sameTerms(b, []topo.Term{{"a", []string{"2", "3"}}, {"b", []string{"1"}}}) {
		t.Error(a, b)
	}
	if !slices.Equal(l, []topo.Label{{"a", "1"}, {"c", "1"}}) {
		t.Error(l)
	}
	for _, x := range [][]topo.Term{a, b} {
		for _, y := range x[len(x):cap(x)] {
			if y.Key != "room" || y.Values != nil {
				t.Error(y)
			}
		}
		for _, y := range x {
			if !slices.Equal(y.Values[len(y.Values):cap(y.Values)], []string{"room", "room", "room"}) {
				t.Error(y)
			}
		}
	}
	for _, y := range l[len(l):cap(l)] {
		if y.Key != "room" {
			t.Error(y)
		}
	}
}

// spoil writes over all of a list's terms and values, those behind their ends too.
func spoil(l []topo.Term) {
	for i := range l {
		v := l[i].Values
		for j := range v[:cap(v)] {
			v[:cap(v)][j] = "spoilt"
		}
	}
	for i := range l[:cap(l)] {
		l[:cap(l)][i] = topo.Term{Key: "spoilt"}
	}
}

// P3: what is answered is the caller's: no list of it lies in another one.
func TestAnsweredIsTheCallers(t *testing.T) {
	a, b := parsed(t, "a=1|2,c=1"), parsed(t, "a=2|3,b=1")
	n, _ := topo.Narrow(a, b)
	again, _ := topo.Narrow(a, b)
	spoil(n)
	if !sameTerms(a, parsed(t, "a=1|2,c=1")) || !sameTerms(b, parsed(t, "a=2|3,b=1")) || !sameTerms(again, parsed(t, "a=2,b=1,c=1")) {
		t.Error(a, b, again)
	}
	alone, _ := topo.Narrow(a, nil)
	same, _ := topo.Narrow(nil, a)
	both, _ := topo.Narrow(a, a)
	spoil(alone)
	spoil(same)
	spoil(both)
	if !sameTerms(a, parsed(t, "a=1|2,c=1")) {
		t.Error(a)
	}
	for _, l := range [][]topo.Term{parsed(t, "a=1|2,b=1|2|3,c=1"), again} {
		for i := range l {
			before := slices.Clone(l)
			for j := range before {
				before[j].Values = slices.Clone(l[j].Values)
			}
			spoil(l[i : i+1 : i+1])
			if !sameTerms(l[i+1:], before[i+1:]) {
				t.Error(l, before)
			}
		}
	}
}

// P2.1, P2.3: of any text.
func FuzzTexts(f *testing.F) {
	for _, s := range append([]string{"", "a=1", "rack=1,zone=a|b"}, wrongTexts...) {
		f.Add(s)
	}
	f.Fuzz(func(t *testing.T, s string) {
		if l, e := topo.Parse(s); e != api.OK {
			if l != nil || e != api.ErrForm {
				t.Errorf("Parse(%q) = %v, %d", s, l, e)
			}
		} else if back, e := topo.Print(l); back != s || e != api.OK {
			t.Errorf("Print(Parse(%q)) = %q, %d", s, back, e)
		}
		if l, e := topo.Labels(s); e != api.OK {
			if l != nil || e != api.ErrForm {
				t.Errorf("Labels(%q) = %v, %d", s, l, e)
			}
		} else if back, e := topo.PrintLabels(l); back != s || e != api.OK {
			t.Errorf("PrintLabels(Labels(%q)) = %q, %d", s, back, e)
		}
	})
}
