package texts_test

import (
	"slices"
	"testing"

	"wharfinger/texts"
)

// What stands between the marks is all there, empty or not, whatever bytes it has.
func TestCut(t *testing.T) {
	for _, x := range []struct {
		text string
		want []string
	}{
		{"", []string{""}},
		{"a", []string{"a"}},
		{",", []string{"", ""}},
		{"a,b", []string{"a", "b"}},
		{",a,,b,", []string{"", "a", "", "b", ""}},
		{"\xff,\xe4\xbd,ä", []string{"\xff", "\xe4\xbd", "ä"}},
	} {
		if got := slices.Collect(texts.Cut(x.text, ',')); !slices.Equal(got, x.want) {
			t.Errorf("Cut(%q) = %q; want %q", x.text, got, x.want)
		}
	}
}

// A walk that is left is left.
func TestCutLeft(t *testing.T) {
	n := 0
	for part := range texts.Cut("a,b,c", ',') {
		n++
		if part == "b" {
			break
		}
	}
	if n != 2 {
		t.Errorf("%d parts; want 2", n)
	}
}
