package books_test

import (
	"slices"
	"testing"

	"wharfinger/api"
	"wharfinger/books"
)

func named(kind api.Kind, name string, size int64) api.Object {
	return api.Object{Kind: kind, Name: name, Size: size}
}

// some are objects of two kinds, with two of one key.
func some() []api.Object {
	return []api.Object{
		named(api.Claim, "c", 5), named(api.Volume, "b", 3), named(api.Volume, "c", 2), named(api.Volume, "b", 1), named(api.Volume, "a", 3),
	}
}

func every(api.Object) bool { return true }

// P12.2, P13.2, P14.2: of one key the first one counts.
func TestThere(t *testing.T) {
	all := some()
	want := []api.Object{all[1], all[2], all[4]}
	if l := slices.Collect(books.There(all, api.Volume)); !slices.Equal(l, want) {
		t.Errorf("%+v; want %+v", l, want)
	}
	if l := slices.Collect(books.There(nil, api.Volume)); len(l) != 0 {
		t.Errorf("of nothing there is %+v", l)
	}
	walk := books.There(all, api.Volume)
	for range 2 { // a walk that is left can be gone once more
		for o := range walk {
			if o != all[1] {
				t.Errorf("%+v; want %+v", o, all[1])
			}
			break
		}
	}
	if o, ok := books.Get(all, api.Volume, "b"); !ok || o != all[1] {
		t.Errorf("%+v; want %+v", o, all[1])
	}
	if o, ok := books.Get(all, api.Pod, "b"); ok || o != (api.Object{}) {
		t.Errorf("of none there is %+v", o)
	}
	if books.Has(all, api.Volume, func(o api.Object) bool { return o.Size == 1 }) {
		t.Error("the second one of a key counts")
	}
}

// P6: of what is alike the first one in an order, wherever it stands.
func TestLeast(t *testing.T) {
	all := some()
	if o, ok := books.Least(all, api.Volume, every, books.ByName); !ok || o != all[4] {
		t.Errorf("%+v; want %+v", o, all[4])
	}
	if o, ok := books.Least(all, api.Volume, func(o api.Object) bool { return o.Name > "a" }, books.ByName); !ok || o != all[1] {
		t.Errorf("%+v; want %+v", o, all[1])
	}
	if o, ok := books.Least(all, api.Node, every, books.ByName); ok || o != (api.Object{}) {
		t.Errorf("of none there is %+v", o)
	}
}

// P12.1, P14.1: names are told apart by when they were born.
func TestBorn(t *testing.T) {
	o := api.Object{Name: "s", Born: 1<<64 - 1}
	if s := books.Born(o); s != "s#18446744073709551615" {
		t.Errorf("%q", s)
	}
	if s := books.Snap(o); s != "snap/s#18446744073709551615" {
		t.Errorf("%q", s)
	}
}
