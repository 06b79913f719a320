package codec_test

import (
	"bytes"
	"encoding/binary"
	"encoding/hex"
	"math"
	"slices"
	"strings"
	"testing"

	"wharfinger/api"
	"wharfinger/codec"
	"wharfinger/object"
)

var longest = strings.Repeat("n", api.MaxName)

// some are right objects: of each kind one with little, and one with all that its kind names.
var some = []api.Object{
	{Kind: api.Class, Name: "a"},
	{Kind: api.Class, Name: "fast", Version: 300, Born: 127, Deleting: true, Hold: true, Zone: "a", Wait: true, Keep: true},
	{Kind: api.Node, Name: "n", Zone: "a"},
	{Kind: api.Node, Name: longest, Version: math.MaxUint64, Born: math.MaxUint64, Deleting: true, Hold: true, Zone: longest},
	{Kind: api.Claim, Name: "c", Class: "f", Size: 1, Mode: api.Single, Phase: api.Pending},
	{Kind: api.Claim, Name: "c", Version: 9, Born: 4, Deleting: true, Hold: true, Class: "fast", Size: 10, Got: api.MaxSize, Mode: api.Many,
		Zone: "a", Node: "n", Volume: "pvc/c#4", Source: "s", Phase: api.Bound, Num: 128},
	{Kind: api.Volume, Name: "v", Class: "f", Size: 1, Got: 1, Mode: api.Single, Zone: "a", Phase: api.Available},
	{Kind: api.Volume, Name: "pvc/c#4", Version: 1 << 35, Born: 1<<35 - 1, Deleting: true, Hold: true, Class: longest, Size: api.MaxSize, Got: api.MaxSize, Mode: api.Many,
		Keep: true, Zone: "a", Claim: "c#4", Phase: api.Released, Num: math.MaxUint64},
	{Kind: api.Attach, Name: "v/n", Volume: "v", Node: "n", Phase: api.Attaching},
	{Kind: api.Attach, Name: "pvc/c#4/n", Version: 9, Born: 4, Deleting: true, Hold: true, Volume: "pvc/c#4", Node: "n", Phase: api.Detaching, Num: 16384},
	{Kind: api.Pod, Name: "p", Claim: "c"},
	{Kind: api.Pod, Name: "p", Version: 9, Born: 4, Deleting: true, Hold: true, Claim: "c", Node: "n"},
	{Kind: api.Snapshot, Name: "s", Source: "c", Phase: api.Pending},
	{Kind: api.Snapshot, Name: "s", Version: 9, Born: 4, Deleting: true, Hold: true, Source: "c", Volume: "v", Got: 1 << 40,
		Phase: api.Ready, Num: 1 << 63, Tag: math.MaxUint64},
}

// wrong are objects that are not right.
var wrong = []api.Object{
	{},
	{Kind: api.Class},
	{Name: "a"},
	{Kind: 8, Name: "a"},
	{Kind: 255, Name: "a"},
	{Kind: api.Class, Name: "A"},
	{Kind: api.Class, Name: longest + "n"},
	{Kind: api.Class, Name: "a", Size: 1},
	{Kind: api.Class, Name: "a", Tag: 1},
	{Kind: api.Class, Name: "a", Phase: 1},
	{Kind: api.Node, Name: "n"},
	{Kind: api.Node, Name: "a/b", Zone: "a"},
	{Kind: api.Claim, Name: "c", Class: "f", Size: 1, Mode: api.Single},
	{Kind: api.Claim, Name: "c", Class: "f", Size: 1, Mode: 3, Phase: api.Pending},
	{Kind: api.Claim, Name: "c", Class: "f", Size: -1, Mode: api.Single, Phase: api.Pending},
	{Kind: api.Claim, Name: "c", Class: "f", Size: math.MinInt64, Mode: api.Single, Phase: api.Pending},
	{Kind: api.Claim, Name: "c", Class: "f", Size: api.MaxSize + 1, Mode: api.Single, Phase: api.Pending},
	{Kind: api.Claim, Name: "c", Class: "f", Size: 1, Got: -1, Mode: api.Single, Phase: api.Pending},
	{Kind: api.Claim, Name: "c", Class: "f", Size: 1, Mode: api.Single, Phase: api.Bound},
	{Kind: api.Volume, Name: "v", Class: "f", Size: 1, Mode: api.Single, Zone: "a", Phase: api.Available},
	{Kind: api.Attach, Name: "v", Volume: "v", Node: "n", Phase: api.Attaching},
	{Kind: api.Pod, Name: "p"},
	{Kind: api.Pod, Name: "p", Claim: "c d"},
	{Kind: api.Snapshot, Name: "s", Source: "c", Phase: api.Bound},
}

// field is one of an object's bytes' parts, and what it is.
type field struct {
	name string
	b    []byte
}

func number(n uint64) []byte { return binary.AppendUvarint(nil, n) }

func text(s string) []byte { return append(number(uint64(len(s))), s...) }

// fields are an object's bytes as the chapter tells them, right or not: the tests' own way.
func fields(o api.Object) []field {
	flags := 0
	for i, on := range []bool{o.Deleting, o.Hold, o.Keep, o.Wait} {
		if on {
			flags += []int{1, 2, 4, 8}[i]
		}
	}
	return []field{
		{"Kind", []byte{byte(o.Kind)}}, {"Name", text(o.Name)}, {"Version", number(o.Version)}, {"Born", number(o.Born)},
		{"flags", []byte{byte(flags)}}, {"Class", text(o.Class)}, {"Size", number(uint64(o.Size))}, {"Got", number(uint64(o.Got))},
		{"Mode", []byte{byte(o.Mode)}}, {"Zone", text(o.Zone)}, {"Node", text(o.Node)}, {"Claim", text(o.Claim)}, {"Volume", text(o.Volume)},
		{"Source", text(o.Source)}, {"Phase", []byte{byte(o.Phase)}}, {"Num", number(o.Num)}, {"Tag", number(o.Tag)},
	}
}

func joined(l []field) []byte {
	var b []byte
	for _, f := range l {
		b = append(b, f.b...)
	}
	return b
}

// with are an object's bytes with others for one field.
func with(o api.Object, name string, b []byte) []byte {
	l := fields(o)
	for i := range l {
		if l[i].name == name {
			l[i].b = b
		}
	}
	return joined(l)
}

func refused(t *testing.T, b []byte) {
	t.Helper()
	if o, e := codec.Read(b); o != (api.Object{}) || e != api.ErrForm {
		t.Errorf("Read(% x) = %+v, %d", b, o, e)
	}
}

func changeRefused(t *testing.T, b []byte) {
	t.Helper()
	if x, e := codec.ReadChange(b); x != (api.Event{}) || e != api.ErrForm {
		t.Errorf("ReadChange(% x) = %+v, %d", b, x, e)
	}
}

// P4.1, the example of the chapter, and others written by hand.
func TestBytes(t *testing.T) {
	for _, c := range []struct {
		o   api.Object
		hex string
	}{
		{some[0], "010161" + strings.Repeat("00", 15)},
		{api.Object{Kind: api.Class, Name: "a", Deleting: true}, "010161000001" + strings.Repeat("00", 12)},
		{api.Object{Kind: api.Class, Name: "a", Hold: true}, "010161000002" + strings.Repeat("00", 12)},
		{api.Object{Kind: api.Class, Name: "a", Keep: true}, "010161000004" + strings.Repeat("00", 12)},
		{api.Object{Kind: api.Class, Name: "a", Wait: true}, "010161000008" + strings.Repeat("00", 12)},
		{api.Object{Kind: api.Class, Name: "a", Deleting: true, Hold: true, Keep: true, Wait: true}, "01016100000f" + strings.Repeat("00", 12)},
		{api.Object{Kind: api.Class, Name: "ab", Version: 300, Born: 1<<64 - 1},
			"01026162" + "ac02" + "ffffffffffffffffff01" + strings.Repeat("00", 13)},
		{api.Object{Kind: api.Claim, Name: "c", Version: 3, Born: 2, Hold: true, Class: "f", Size: 1 << 50, Got: 127, Mode: api.Many,
			Zone: "z", Node: "n", Volume: "v", Source: "s", Phase: api.Bound, Num: 128},
			"03" + "0163" + "03" + "02" + "02" + "0166" + "8080808080808002" + "7f" + "02" + "017a" + "016e" + "00" + "0176" + "0173" + "03" + "8001" + "00"},
		{api.Object{Kind: api.Volume, Name: "v", Class: "f", Size: 16383, Got: 16384, Mode: api.Single, Keep: true, Zone: "z", Claim: "c#2", Phase: api.Released, Num: 4},
			"04" + "0176" + "00" + "00" + "04" + "0166" + "ff7f" + "808001" + "01" + "017a" + "00" + "03632332" + "00" + "00" + "05" + "04" + "00"},
		{api.Object{Kind: api.Snapshot, Name: "s", Source: "c", Volume: "v", Got: 255, Phase: api.Ready, Num: 5, Tag: 6},
			"07" + "0173" + "00" + "00" + "00" + "00" + "00" + "ff01" + "00" + "00" + "00" + "00" + "0176" + "0163" + "0b" + "05" + "06"},
	} {
		if b, e := codec.Object(c.o); hex.EncodeToString(b) != c.hex || e != api.OK {
			t.Errorf("Object(%+v) = %x, %d; want %s", c.o, b, e, c.hex)
		}
		b, _ := hex.DecodeString(c.hex)
		if o, e := codec.Read(b); o != c.o || e != api.OK {
			t.Errorf("Read(%s) = %+v, %d", c.hex, o, e)
		}
	}
}

// P4.1
func TestChangeBytes(t *testing.T) {
	class := "010161" + strings.Repeat("00", 15)
	for _, c := range []struct {
		x   api.Event
		hex string
	}{
		{api.Event{Object: some[0]}, "0000" + class},
		{api.Event{Version: 5, Object: some[0]}, "0500" + class},
		{api.Event{Version: 5, Gone: true, Object: some[0]}, "0501" + class},
		{api.Event{Version: 128, Gone: true, Object: some[0]}, "800101" + class},
		{api.Event{Version: 1<<64 - 1, Object: some[0]}, "ffffffffffffffffff0100" + class},
	} {
		if b, e := codec.Change(c.x); hex.EncodeToString(b) != c.hex || e != api.OK {
			t.Errorf("Change(%+v) = %x, %d; want %s", c.x, b, e, c.hex)
		}
		b, _ := hex.DecodeString(c.hex)
		if x, e := codec.ReadChange(b); x != c.x || e != api.OK {
			t.Errorf("ReadChange(%s) = %+v, %d", c.hex, x, e)
		}
	}
}

// P4.1, P4.2
func TestReadOfBytes(t *testing.T) {
	for _, o := range some {
		b, e := codec.Object(o)
		if e != api.OK || !bytes.Equal(b, joined(fields(o))) {
			t.Errorf("Object(%+v) = % x, %d", o, b, e)
		}
		if back, e := codec.Read(b); back != o || e != api.OK {
			t.Errorf("Read of the bytes of %+v: %+v, %d", o, back, e)
		}
		for _, version := range []uint64{0, 1, 127, 128, 1 << 63, math.MaxUint64} {
			for _, gone := range []bool{false, true} {
				x := api.Event{Version: version, Gone: gone, Object: o}
				b, e := codec.Change(x)
				if e != api.OK {
					t.Errorf("Change(%+v): %d", x, e)
				}
				if back, e := codec.ReadChange(b); back != x || e != api.OK {
					t.Errorf("ReadChange of the bytes of %+v: %+v, %d", x, back, e)
				}
			}
		}
	}
}

// P4.1, P4.2: numbers beside each power of 2.
func TestNumbers(t *testing.T) {
	for shift := range 64 {
		for near := range uint64(3) {
			n := uint64(1)<<shift + near - 1
			o := api.Object{Kind: api.Snapshot, Name: "s", Version: n, Born: ^n, Source: "c", Phase: api.Pending, Num: n / 3, Tag: n * 5}
			b, e := codec.Object(o)
			if e != api.OK || !bytes.Equal(b, joined(fields(o))) {
				t.Errorf("Object(%+v) = % x, %d", o, b, e)
			}
			if back, e := codec.Read(b); back != o || e != api.OK {
				t.Errorf("Read(% x) = %+v, %d", b, back, e)
			}
		}
	}
}

// P4.1: what is not right has no bytes, and no bytes say it.
func TestWrongObjects(t *testing.T) {
	for _, o := range wrong {
		if object.Right(o) {
			t.Fatalf("Right(%+v)", o)
		}
		if b, e := codec.Object(o); b != nil || e != api.ErrForm {
			t.Errorf("Object(%+v) = % x, %d", o, b, e)
		}
		if b, e := codec.Change(api.Event{Version: 5, Gone: true, Object: o}); b != nil || e != api.ErrForm {
			t.Errorf("Change(%+v) = % x, %d", o, b, e)
		}
		refused(t, joined(fields(o)))
		changeRefused(t, append([]byte{5, 0}, joined(fields(o))...))
		changeRefused(t, append([]byte{5, 1}, joined(fields(o))...))
	}
}

// P4.3
func TestCutOrWithMore(t *testing.T) {
	refused(t, nil)
	refused(t, []byte{})
	changeRefused(t, nil)
	changeRefused(t, []byte{})
	for _, o := range some {
		b, _ := codec.Object(o)
		c, _ := codec.Change(api.Event{Version: 300, Gone: true, Object: o})
		for n := range len(b) {
			refused(t, b[:n])
			if n > 0 {
				refused(t, b[n:])
			}
		}
		for n := range len(c) {
			changeRefused(t, c[:n])
		}
		for behind := range 256 {
			refused(t, append(slices.Clone(b), byte(behind)))
			changeRefused(t, append(slices.Clone(c), byte(behind)))
		}
		refused(t, append(slices.Clone(b), b...))
		changeRefused(t, append(slices.Clone(c), c...))
		refused(t, append([]byte{0}, b...))
		changeRefused(t, b)
	}
}

// badNumbers are bytes that are no number's.
var badNumbers = [][]byte{
	{0x80}, {0x80, 0}, {0x81, 0}, {0xff, 0}, {0x80, 0x80, 0}, {0xff, 0xff, 0}, {0x81, 0x80, 0},
	{0x80, 0x80, 0x80, 0x80, 0x80, 0x80, 0x80, 0x80, 0x80, 0},
	{0xff, 0xff, 0xff, 0xff, 0xff, 0xff, 0xff, 0xff, 0xff, 0},
	{0x80, 0x80, 0x80, 0x80, 0x80, 0x80, 0x80, 0x80, 0x80, 2}, // 2^64
	{0x81, 0x80, 0x80, 0x80, 0x80, 0x80, 0x80, 0x80, 0x80, 2},
	{0xff, 0xff, 0xff, 0xff, 0xff, 0xff, 0xff, 0xff, 0xff, 3},
	{0xff, 0xff, 0xff, 0xff, 0xff, 0xff, 0xff, 0xff, 0xff, 0x7f},
	{0xff, 0xff, 0xff, 0xff, 0xff, 0xff, 0xff, 0xff, 0xff, 0x81, 0},
	{0x80, 0x80, 0x80, 0x80, 0x80, 0x80, 0x80, 0x80, 0x80, 0x80, 1}, // 2^70
	{0x81, 0x80, 0x80, 0x80, 0x80, 0x80, 0x80, 0x80, 0x80, 0x80, 1},
	{0x81, 0x80, 0x80, 0x80, 0x80, 0x80, 0x80, 0x80, 0x80, 0x80, 0},
	bytes.Repeat([]byte{0x80}, 1000), bytes.Repeat([]byte{0xff}, 1000),
	append(bytes.Repeat([]byte{0x80}, 1000), 1),
}

// P4.1
func TestBadNumbers(t *testing.T) {
	snapshot := some[len(some)-1]
	claim := some[5]
	for _, b := range badNumbers {
		for _, name := range []string{"Version", "Born", "Num", "Tag", "Got"} {
			refused(t, with(snapshot, name, b))
		}
		for _, name := range []string{"Version", "Born", "Num", "Tag", "Size", "Got"} {
			refused(t, with(claim, name, b))
			changeRefused(t, append([]byte{1, 0}, with(claim, name, b)...))
		}
		changeRefused(t, append(append(slices.Clone(b), 0), joined(fields(claim))...))
		for _, name := range []string{"Name", "Class", "Zone", "Node", "Claim", "Volume", "Source"} {
			refused(t, with(claim, name, b))
			refused(t, with(claim, name, append(slices.Clone(b), "a"...)))
		}
	}
	for _, n := range []uint64{api.MaxSize + 1, 1<<63 - 1, 1 << 63, 1<<63 + 1, 1<<64 - 1, 1<<64 - 10} {
		refused(t, with(claim, "Size", number(n)))
		refused(t, with(claim, "Got", number(n)))
	}
}

// P4.1: the length of a text in more bytes than it needs, or one that passes the end.
func TestBadTexts(t *testing.T) {
	for _, o := range some {
		rest := uint64(len(joined(fields(o))))
		for _, f := range fields(o) {
			if !slices.Contains([]string{"Name", "Class", "Zone", "Node", "Claim", "Volume", "Source"}, f.name) {
				continue
			}
			refused(t, with(o, f.name, append([]byte{f.b[0] | 0x80, 0}, f.b[1:]...)))
			for _, n := range []uint64{rest, rest + 1, 1 << 31, 1<<31 - 1, 1 << 32, 1<<32 + 1, 1<<63 - 1, 1 << 63, 1<<64 - 1} {
				refused(t, with(o, f.name, append(number(n), f.b[1:]...)))
			}
			refused(t, with(o, f.name, text("A")))
			refused(t, with(o, f.name, text("\xff")))
			refused(t, with(o, f.name, text(longest+"n")))
			refused(t, with(o, f.name, text(strings.Repeat("n", 100000))))
		}
	}
}

// P4.1
func TestBadFlags(t *testing.T) {
	for flags := range 256 {
		b := with(some[0], "flags", []byte{byte(flags)})
		if flags > 15 {
			refused(t, b)
			changeRefused(t, append([]byte{1, 0}, b...))
			continue
		}
		o, e := codec.Read(b)
		if e != api.OK || o.Deleting != (flags&1 != 0) || o.Hold != (flags&2 != 0) || o.Keep != (flags&4 != 0) || o.Wait != (flags&8 != 0) {
			t.Errorf("Read(% x) = %+v, %d", b, o, e)
		}
	}
	refused(t, with(some[2], "flags", []byte{4})) // a node has no Keep
	for gone := 2; gone < 256; gone++ {
		changeRefused(t, append([]byte{1, byte(gone)}, joined(fields(some[0]))...))
	}
}

// consistent tells that bytes are refused, or just those that what they say is written as.
func consistent(t *testing.T, b []byte) {
	t.Helper()
	if o, e := codec.Read(b); e != api.OK {
		if o != (api.Object{}) || e != api.ErrForm {
			t.Errorf("Read(% x) = %+v, %d", b, o, e)
		}
	} else if back, e := codec.Object(o); !bytes.Equal(back, b) || e != api.OK || !object.Right(o) {
		t.Errorf("Read(% x) = %+v: its bytes are % x, %d", b, o, back, e)
	}
	if x, e := codec.ReadChange(b); e != api.OK {
		if x != (api.Event{}) || e != api.ErrForm {
			t.Errorf("ReadChange(% x) = %+v, %d", b, x, e)
		}
	} else if back, e := codec.Change(x); !bytes.Equal(back, b) || e != api.OK {
		t.Errorf("ReadChange(% x) = %+v: its bytes are % x, %d", b, x, back, e)
	}
}

// P4.2: what is read is written as the same bytes, whichever byte is another one.
func TestWrittenAsRead(t *testing.T) {
	for _, o := range some {
		b, _ := codec.Object(o)
		c, _ := codec.Change(api.Event{Version: 300, Object: o})
		for _, l := range [][]byte{b, c} {
			for i := range l {
				for x := range 256 {
					other := slices.Clone(l)
					other[i] = byte(x)
					consistent(t, other)
					consistent(t, slices.Insert(slices.Clone(l), i, byte(x)))
				}
				consistent(t, slices.Delete(slices.Clone(l), i, i+1))
			}
		}
	}
}

// P3: what is handed in stays as it is, and what is answered lies in nothing else.
func TestLists(t *testing.T) {
	for _, o := range some {
		b, _ := codec.Object(o)
		again, _ := codec.Object(o)
		roomy := append(slices.Clone(b), 7, 7, 7)
		if back, e := codec.Read(roomy[:len(b)]); back != o || e != api.OK || !bytes.Equal(roomy, append(slices.Clone(b), 7, 7, 7)) {
			t.Errorf("Read of roomy bytes: %+v, %d; % x", back, e, roomy)
		}
		c, _ := codec.Change(api.Event{Version: 5, Object: o})
		back, _ := codec.Read(b)
		event, _ := codec.ReadChange(c)
		for _, l := range [][]byte{b, c} {
			for i := range l[:cap(l)] {
				l[:cap(l)][i] = 'q'
			}
		}
		if back != o || event != (api.Event{Version: 5, Object: o}) || !bytes.Equal(again, joined(fields(o))) {
			t.Errorf("%+v: %+v, %+v, % x", o, back, event, again)
		}
	}
}

// P4.1 to P4.3: of any bytes.
func FuzzRead(f *testing.F) {
	for _, o := range append(slices.Clone(some), wrong...) {
		f.Add(joined(fields(o)))
		f.Add(append([]byte{1, 1}, joined(fields(o))...))
	}
	for _, b := range badNumbers {
		f.Add(b)
		f.Add(with(some[5], "Tag", b))
	}
	f.Fuzz(func(t *testing.T, b []byte) {
		before := slices.Clone(b)
		consistent(t, b)
		if !bytes.Equal(b, before) {
			t.Errorf("% x became % x", before, b)
		}
	})
}
