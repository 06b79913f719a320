package blocks_test

import (
	"bytes"
	"encoding/hex"
	"hash/adler32"
	"math"
	"math/rand"
	"slices"
	"strings"
	"testing"

	"wharfinger/api"
	"wharfinger/blocks"
)

// filled are n bytes, none of them 0.
func filled(n int) []byte {
	b := make([]byte, n)
	for i := range b {
		b[i] = byte(i%251) + 1
	}
	return b
}

// head is a record's as the chapter tells it: the tests' own way.
func head(length, number int, sum uint32) []byte {
	return []byte{byte(length / 256), byte(length % 256), byte(number / 256), byte(number % 256),
		byte(sum >> 24), byte(sum >> 16), byte(sum >> 8), byte(sum)}
}

// laid is a record of that number on its blocks.
func laid(number int, record []byte) []byte {
	b := append(head(len(record), number, adler32.Checksum(record)), record...)
	for len(b)%api.BlockSize != 0 {
		b = append(b, 0)
	}
	return b
}

// whole are the whole records on blocks: the definition, word by word.
func whole(b []byte) [][]byte {
	var l [][]byte
	for len(b) > 0 {
		length := int(b[0])*256 + int(b[1])
		if length == 0 || length > api.MaxRecord {
			break
		}
		size := (8 + length + 63) / 64 * 64
		if size > len(b) || !bytes.Equal(b[:size], laid((len(l)+1)%65536, b[8:8+length])) {
			break
		}
		l = append(l, b[8:8+length])
		b = b[size:]
	}
	return l
}

func add(t *testing.T, l *blocks.Log, records ...[]byte) {
	t.Helper()
	for _, r := range records {
		if e := l.Append(r); e != api.OK {
			t.Fatalf("Append of %d bytes: %d", len(r), e)
		}
	}
}

func crash(t *testing.T, l *blocks.Log, keep, torn int) {
	t.Helper()
	if e := l.Crash(keep, torn); e != api.OK {
		t.Fatalf("Crash(%d, %d): %d", keep, torn, e)
	}
}

func made(t *testing.T, n int) *blocks.Log {
	t.Helper()
	l := blocks.New(n)
	if l == nil {
		t.Fatalf("New(%d) is nil", n)
	}
	return l
}

// has holds a log against its bytes, and how many blocks it may have.
func has(t *testing.T, l *blocks.Log, most int, want []byte) {
	t.Helper()
	if b := l.Bytes(); !bytes.Equal(b, want) {
		t.Errorf("Bytes: % x; want % x", b, want)
	}
	if n := most - len(want)/api.BlockSize; l.Free() != n {
		t.Errorf("Free: %d; want %d", l.Free(), n)
	}
	records(t, l, whole(want)...)
}

func records(t *testing.T, l *blocks.Log, want ...[]byte) {
	t.Helper()
	if r := l.Records(); !slices.EqualFunc(r, want, bytes.Equal) {
		t.Errorf("Records: %q; want %q", r, want)
	}
}

// P5.1
func TestNew(t *testing.T) {
	for _, n := range []int{math.MinInt, -1, 0, api.MaxBlocks + 1, math.MaxInt} {
		if blocks.New(n) != nil {
			t.Errorf("New(%d) is not nil", n)
		}
	}
	for _, n := range []int{1, 2, api.MaxBlocks - 1, api.MaxBlocks} {
		has(t, made(t, n), n, nil)
	}
}

// P5.1, and the example of the chapter.
func TestNeed(t *testing.T) {
	for n, want := range map[int]int{
		math.MinInt: 0, -1: 0, 0: 0, 1: 1, 55: 1, 56: 1, 57: 2, 120: 2, 121: 3, 1016: 16, 1017: 17, 1023: 17, 1024: 17,
		1025: 0, 65536 + 5: 0, 1<<32 + 5: 0, math.MaxInt - 1: 0, math.MaxInt: 0,
	} {
		if blocks.Need(n) != want {
			t.Errorf("Need(%d) = %d; want %d", n, blocks.Need(n), want)
		}
	}
	for n := 1; n <= api.MaxRecord; n++ {
		l := made(t, 17)
		add(t, l, make([]byte, n))
		if need := 17 - l.Free(); blocks.Need(n) != need || need*64 < n+8 || need*64 >= n+8+64 {
			t.Errorf("Need(%d) = %d, but %d blocks went", n, blocks.Need(n), need)
		}
	}
}

// P5.2
func TestSum(t *testing.T) {
	for s, want := range map[string]uint32{"": 1, "\x00": 0x00010001, "\x00\x00": 0x00020001, "a": 0x00620062, "ab": 0x012600c4, "ba": 0x012700c4, "Wikipedia": 0x11e60398} {
		if blocks.Sum([]byte(s)) != want {
			t.Errorf("Sum(%q) = %x; want %x", s, blocks.Sum([]byte(s)), want)
		}
	}
	if blocks.Sum(nil) != 1 {
		t.Errorf("Sum of nil: %x", blocks.Sum(nil))
	}
	r := rand.New(rand.NewSource(1))
	for _, n := range []int{1, 63, 256, 257, 258, 1024, 5551, 5552, 5553, 65520, 65521, 65522, 1 << 20} {
		b := make([]byte, n)
		r.Read(b)
		for _, x := range [][]byte{b, make([]byte, n), bytes.Repeat([]byte{255}, n)} {
			if blocks.Sum(x) != adler32.Checksum(x) {
				t.Errorf("Sum of %d bytes: %x; want %x", n, blocks.Sum(x), adler32.Checksum(x))
			}
		}
	}
}

// P5.1: the bytes of records, written by hand.
func TestBytes(t *testing.T) {
	l := made(t, 9)
	add(t, l, []byte("Wikipedia"), []byte{0}, append(make([]byte, 56), 'a'))
	want := "00090001" + "11e60398" + hex.EncodeToString([]byte("Wikipedia")) + strings.Repeat("00", 47) +
		"00010002" + "00010001" + strings.Repeat("00", 56) +
		"00390003" + "009a0062" + strings.Repeat("00", 56) + "61" + strings.Repeat("00", 63)
	if b := hex.EncodeToString(l.Bytes()); b != want {
		t.Errorf("%s; want %s", b, want)
	}
	long := made(t, 17)
	add(t, long, filled(1024))
	if b := long.Bytes(); !bytes.HasPrefix(b, []byte{4, 0, 0, 1}) || len(b) != 17*64 || !bytes.Equal(b, laid(1, filled(1024))) {
		t.Errorf("% x", b)
	}
}

// P5.1
func TestAppend(t *testing.T) {
	for _, n := range []int{1, 2, 55, 56, 57, 63, 64, 65, 119, 120, 121, 1015, 1016, 1017, 1023, 1024} {
		l := made(t, 40)
		add(t, l, filled(n), make([]byte, n))
		has(t, l, 40, append(laid(1, filled(n)), laid(2, make([]byte, n))...))
	}
}

// P5.1
func TestAppendErrors(t *testing.T) {
	l := made(t, 3)
	add(t, l, []byte("a"))
	before := l.Bytes()
	for _, c := range []struct {
		b    []byte
		want api.Errno
	}{
		{nil, api.ErrRange}, {[]byte{}, api.ErrRange}, {filled(1025), api.ErrRange}, {filled(65536 + 1), api.ErrRange},
		{filled(1024), api.ErrFull}, {filled(121), api.ErrFull},
	} {
		if e := l.Append(c.b); e != c.want {
			t.Errorf("Append of %d bytes: %d; want %d", len(c.b), e, c.want)
		}
		has(t, l, 3, before)
	}
	add(t, l, filled(120))
	if e := l.Append([]byte("a")); e != api.ErrFull || l.Free() != 0 {
		t.Errorf("Append to a full one: %d", e)
	}
	if e := l.Append(nil); e != api.ErrRange {
		t.Errorf("Append of nothing to a full one: %d", e)
	}
	if e := l.Append(filled(1025)); e != api.ErrRange {
		t.Errorf("Append of too many to a full one: %d", e)
	}
}

// P5.1: as many blocks as there may be, each with its number.
func TestMostBlocks(t *testing.T) {
	l := made(t, api.MaxBlocks)
	var want []byte
	for i := range api.MaxBlocks {
		b := []byte{byte(i), byte(i >> 8)}
		add(t, l, b)
		want = append(want, laid(i+1, b)...)
	}
	if e := l.Append([]byte("a")); e != api.ErrFull {
		t.Errorf("Append to a full one: %d", e)
	}
	has(t, l, api.MaxBlocks, want)
	if n := len(l.Records()); n != api.MaxBlocks {
		t.Errorf("%d records", n)
	}
}

// P5.1, P5.3: of blocks that do not last so many stay, and so many bytes of the next one.
func TestCrash(t *testing.T) {
	lasts := append(laid(1, filled(57)), laid(2, []byte("b"))...)
	behind := slices.Concat(laid(3, filled(130)), laid(4, []byte("d")), laid(5, make([]byte, 60)))
	all := append(slices.Clone(lasts), behind...)
	for keep := range 9 {
		for torn := range api.BlockSize + 1 {
			l := made(t, 12)
			add(t, l, filled(57), []byte("b"))
			l.Sync()
			add(t, l, filled(130), []byte("d"), make([]byte, 60))
			crash(t, l, keep, torn)
			want := all[:min(len(all), len(lasts)+64*keep)]
			if torn > 0 && len(want) < len(all) {
				next := slices.Clone(all[len(want) : len(want)+64])
				clear(next[torn:])
				want = append(slices.Clone(want), next...)
			}
			has(t, l, 12, want)
			crash(t, l, 0, 0) // what is left lasts
			has(t, l, 12, want)
			if r := l.Records(); len(r) < 2 || !bytes.Equal(r[0], filled(57)) || string(r[1]) != "b" {
				t.Errorf("what was synced is not there: %q", r)
			}
		}
	}
}

// P5.1
func TestCrashErrors(t *testing.T) {
	for _, c := range []struct{ keep, torn int }{
		{-1, 0}, {math.MinInt, 0}, {0, -1}, {0, math.MinInt}, {0, 65}, {0, math.MaxInt}, {-1, -1}, {-1, 65}, {math.MaxInt, 65}, {math.MaxInt, -1},
	} {
		l := made(t, 4)
		add(t, l, []byte("a"))
		l.Sync()
		add(t, l, []byte("b"))
		before := l.Bytes()
		if e := l.Crash(c.keep, c.torn); e != api.ErrRange {
			t.Errorf("Crash(%d, %d): %d", c.keep, c.torn, e)
		}
		has(t, l, 4, before)
		crash(t, l, 0, 0) // what did not last still does not
		records(t, l, []byte("a"))
	}
}

// P5.1
func TestCrashEdges(t *testing.T) {
	for _, c := range []struct{ keep, torn, left int }{
		{0, 0, 0}, {0, 1, 1}, {0, 64, 1}, {1, 0, 1}, {1, 64, 2}, {2, 0, 2}, {2, 64, 2}, {3, 1, 2},
		{math.MaxInt, 0, 2}, {math.MaxInt, 64, 2}, {math.MaxInt - 1, 64, 2},
	} {
		l := made(t, 4)
		add(t, l, []byte("a"))
		l.Sync()
		add(t, l, []byte("b"), []byte("c"))
		crash(t, l, c.keep, c.torn)
		if n := 4 - l.Free(); n != 1+c.left {
			t.Errorf("Crash(%d, %d): %d blocks are left", c.keep, c.torn, n)
		}
	}
	l := made(t, 4)
	crash(t, l, 5, 64)
	has(t, l, 4, nil)
}

// P5.1: Sync, and no other call, lets what was Appended last.
func TestSync(t *testing.T) {
	l := made(t, 9)
	if e := l.Sync(); e != api.OK {
		t.Errorf("Sync of an empty one: %d", e)
	}
	add(t, l, []byte("a"))
	if e := l.Sync(); e != api.OK {
		t.Errorf("Sync: %d", e)
	}
	add(t, l, []byte("b"))
	l.Records()
	l.Bytes()
	l.Free()
	l.Fork().Sync()
	crash(t, l, 0, 0)
	has(t, l, 9, laid(1, []byte("a")))
	add(t, l, []byte("c"))
	l.Sync()
	crash(t, l, 0, 0)
	has(t, l, 9, append(laid(1, []byte("a")), laid(2, []byte("c"))...))
}

// P5.2, P5.4
func TestClean(t *testing.T) {
	l := made(t, 6)
	if e := l.Clean(); e != api.OK {
		t.Errorf("Clean of an empty one: %d", e)
	}
	add(t, l, []byte("a"), filled(130))
	crash(t, l, 3, 0)
	if l.Free() != 3 {
		t.Errorf("Free: %d", l.Free())
	}
	if e := l.Clean(); e != api.OK {
		t.Errorf("Clean: %d", e)
	}
	has(t, l, 6, laid(1, []byte("a")))
	add(t, l, []byte("b"))
	has(t, l, 6, append(laid(1, []byte("a")), laid(2, []byte("b"))...))
	if e := l.Clean(); e != api.OK {
		t.Errorf("Clean: %d", e)
	}
	crash(t, l, 0, 0) // by Clean, too, all lasts
	has(t, l, 6, append(laid(1, []byte("a")), laid(2, []byte("b"))...))
}

// P5.2, P5.4: what stands behind something that is not whole is none, has the number of those ahead of it, and goes by Clean.
func TestAppendBehindTorn(t *testing.T) {
	l := made(t, 9)
	add(t, l, []byte("a"), []byte("bb"))
	crash(t, l, 1, 9)
	torn := slices.Concat(laid(1, []byte("a")), head(2, 2, adler32.Checksum([]byte("bb"))), []byte("b"), make([]byte, 55))
	has(t, l, 9, torn)
	records(t, l, []byte("a"))
	add(t, l, []byte("c"), []byte("d"))
	has(t, l, 9, slices.Concat(torn, laid(2, []byte("c")), laid(2, []byte("d"))))
	records(t, l, []byte("a"))
	l.Clean()
	has(t, l, 9, laid(1, []byte("a")))
	add(t, l, []byte("e"))
	records(t, l, []byte("a"), []byte("e"))
}

// crafted is a log with two blocks that are a whole record, and those bytes (at most 968) behind it: a record of two blocks is torn behind its first one, and has the beginning of what is Appended behind it for its second one.
func crafted(t *testing.T, most int, behind []byte) (*blocks.Log, []byte) {
	t.Helper()
	second := append(filled(56), behind...)
	first := append(filled(56), laid(1, second)[:64]...)
	l := made(t, most)
	add(t, l, first)
	crash(t, l, 1, 0)
	if len(l.Records()) != 0 {
		t.Fatal("a record without its second block is whole")
	}
	add(t, l, second)
	return l, first
}

// P5.2: of the bytes behind a whole record just those are one that are one in all.
func TestWhole(t *testing.T) {
	for _, n := range []int{1, 9, 56, 57, 100, 120, 500} {
		good := laid(2, filled(n))
		l, first := crafted(t, 20, good)
		records(t, l, first, filled(n))
		has(t, l, 20, slices.Concat(laid(1, first), good))
		for i := range good {
			for _, other := range []byte{good[i] ^ 1, good[i] ^ 128, good[i] + 1} {
				bad := slices.Clone(good)
				bad[i] = other
				l, first := crafted(t, 20, bad)
				records(t, l, first)
				l.Clean()
				has(t, l, 20, laid(1, first))
			}
		}
	}
}

// P5.2
func TestWholeEdges(t *testing.T) {
	sum := adler32.Checksum
	zeros := make([]byte, 300)
	for _, c := range []struct {
		what string
		b    []byte
		want [][]byte
	}{
		{"nothing but bytes 0", zeros, nil},
		{"a length of 0", append(head(0, 2, 1), zeros[:56]...), nil},
		{"a record", laid(2, filled(60)), [][]byte{filled(60)}},
		{"two of them", append(laid(2, filled(60)), laid(3, zeros)...), [][]byte{filled(60), zeros}},
		{"the number of the first one", laid(1, filled(60)), nil},
		{"number 0", laid(0, filled(60)), nil},
		{"a number too many", laid(3, filled(60)), nil},
		{"a number of one byte's fit", laid(2+256, filled(60)), nil},
		{"its bytes turned round", laid(2*256, filled(60)), nil},
		{"a second one of the same number", append(laid(2, filled(60)), laid(2, filled(60))...), [][]byte{filled(60)}},
		{"a third one behind one that is none", slices.Concat(laid(2, filled(6)), laid(9, filled(6)), laid(4, filled(6))), [][]byte{filled(6)}},
		{"blocks that are not there", laid(2, filled(600))[:64*9], nil},
		{"another one's sum", append(head(5, 2, sum([]byte("other"))), append([]byte("ohter"), zeros[:51]...)...), nil},
		{"the sum of what is behind, too", append(head(5, 2, sum(append([]byte("other"), 0))), append([]byte("other"), zeros[:51]...)...), nil},
		{"a length of more than are there", append(head(900, 2, sum(zeros)), zeros[:56]...), nil},
	} {
		l, first := crafted(t, 20, c.b)
		if r := l.Records(); !slices.EqualFunc(r, append([][]byte{first}, c.want...), bytes.Equal) {
			t.Errorf("%s: %q", c.what, r)
		}
	}
}

// P5.2: a length above MaxRecord, all else of which fits.
func TestTooLong(t *testing.T) {
	last := laid(2, []byte{7}) // in a block behind those that one Append can craft
	long := slices.Concat(filled(960), make([]byte, 56), last[:9])
	behind := slices.Concat(head(1025, 2, adler32.Checksum(long)), long[:960])
	l, first := crafted(t, 30, behind)
	add(t, l, []byte{7})
	want := slices.Concat(laid(1, first), behind, make([]byte, 56), last)
	if len(long) != api.MaxRecord+1 || !bytes.Equal(l.Bytes(), want) {
		t.Fatalf("%d bytes: % x", len(long), l.Bytes())
	}
	records(t, l, first)
}

// P5.2: a record that was torn is whole by what is Appended behind it, if just that was missing.
func TestWholeAgain(t *testing.T) {
	rest := laid(1, []byte("rest"))
	first := append(filled(56), rest[:12]...)
	l := made(t, 9)
	add(t, l, first)
	crash(t, l, 1, 0)
	records(t, l)
	add(t, l, []byte("rest"))
	records(t, l, first)
	add(t, l, []byte("more")) // it is the second one
	has(t, l, 9, slices.Concat(laid(1, first), laid(2, []byte("more"))))
	crash(t, l, 1, 0) // the first block lasts, and this one stays
	has(t, l, 9, laid(1, first))
	crash(t, l, 0, 0)
	add(t, l, []byte("more"))
	records(t, l, first, []byte("more"))

	cut := made(t, 9) // the same, but there is more behind
	add(t, cut, first)
	crash(t, cut, 1, 0)
	add(t, cut, []byte("rest!"))
	records(t, cut)
}

// P4, P5.2
func TestFork(t *testing.T) {
	l := made(t, 9)
	add(t, l, []byte("a"))
	l.Sync()
	add(t, l, []byte("b"), filled(100))
	before := l.Bytes()
	changes := []func(*blocks.Log){
		func(l *blocks.Log) { l.Append([]byte("x")) },
		func(l *blocks.Log) { l.Append(filled(200)) },
		func(l *blocks.Log) { l.Sync() },
		func(l *blocks.Log) { l.Clean() },
		func(l *blocks.Log) { l.Crash(0, 0) },
		func(l *blocks.Log) { l.Crash(0, 9); l.Append([]byte("x")) },
		func(l *blocks.Log) { l.Crash(1, 9); l.Clean(); l.Append(filled(100)) },
	}
	for i, change := range changes {
		of, other := l.Fork(), l.Fork().Fork()
		change(of)
		has(t, l, 9, before)
		has(t, other, 9, before)
		of = l.Fork()
		again := of.Fork()
		change(of)
		crash(t, again, 1, 0) // what lasts is the same, too
		if want := before[:128]; !bytes.Equal(again.Bytes(), want) {
			t.Errorf("change %d: % x", i, again.Bytes())
		}
		add(t, again, []byte("y"))
		records(t, again, []byte("a"), []byte("b"), []byte("y"))
	}
	both := l.Fork()
	add(t, l, []byte("x"))
	add(t, both, []byte("y"))
	has(t, l, 9, append(slices.Clone(before), laid(4, []byte("x"))...))
	has(t, both, 9, append(slices.Clone(before), laid(4, []byte("y"))...))
}

// P4: however much of its memory a log has filled.
func TestForksOfAnyLength(t *testing.T) {
	for n := range 40 {
		l := made(t, 60)
		for range n {
			add(t, l, []byte("a"))
		}
		before := l.Bytes()
		one, other, torn := l.Fork(), l.Fork(), l.Fork()
		add(t, one, []byte("one"), []byte("more"))
		add(t, other, []byte("other"))
		crash(t, torn, n/2, 3)
		torn.Clean()
		add(t, torn, []byte("torn"))
		add(t, l, []byte("itself"))
		has(t, l, 60, append(slices.Clone(before), laid(n+1, []byte("itself"))...))
		has(t, one, 60, slices.Concat(before, laid(n+1, []byte("one")), laid(n+2, []byte("more"))))
		has(t, other, 60, append(slices.Clone(before), laid(n+1, []byte("other"))...))
		has(t, torn, 60, append(slices.Clone(before[:n/2*64]), laid(n/2+1, []byte("torn"))...))
	}
}

// P3: what was handed in, and what was answered, is no part of the log.
func TestMemory(t *testing.T) {
	room := append(filled(70), "behind"...)
	b := room[:70]
	l := made(t, 9)
	add(t, l, b, []byte("b"))
	if !bytes.Equal(b, filled(70)) || string(room[70:]) != "behind" {
		t.Errorf("what was handed in: %q", room)
	}
	clear(b)
	want := append(laid(1, filled(70)), laid(2, []byte("b"))...)
	has(t, l, 9, want)
	clear(l.Bytes())
	has(t, l, 9, want)
	r := l.Records()
	for i := range r {
		clear(r[i])
		_ = append(r[i], bytes.Repeat([]byte("x"), 200)...)
	}
	r[0] = nil
	has(t, l, 9, want)
	r = l.Records()
	clear(append(r[0], make([]byte, 64)...))
	if string(r[1]) != "b" {
		t.Errorf("records of one answer share memory: %q", r[1])
	}
	sum := filled(70)
	blocks.Sum(sum)
	if !bytes.Equal(sum, filled(70)) {
		t.Errorf("what was summed: %q", sum)
	}
}

// P1
func TestNil(t *testing.T) {
	var l *blocks.Log
	for _, e := range []api.Errno{l.Append(nil), l.Append(filled(1)), l.Append(filled(1025)), l.Sync(), l.Clean(),
		l.Crash(0, 0), l.Crash(-1, 0), l.Crash(0, 65), l.Crash(math.MaxInt, math.MinInt)} {
		if e != api.ErrNil {
			t.Errorf("%d", e)
		}
	}
	if l.Records() != nil || l.Free() != 0 || l.Bytes() != nil || l.Fork() != nil {
		t.Error("a nil log has something")
	}
}

// model is a log as the chapter tells it, of bytes alone.
type model struct {
	most  int
	b     []byte
	lasts int // bytes
}

func (m *model) add(r []byte) api.Errno {
	if len(r) < 1 || len(r) > api.MaxRecord {
		return api.ErrRange
	}
	x := laid((len(whole(m.b))+1)%65536, r)
	if len(m.b)+len(x) > m.most*64 {
		return api.ErrFull
	}
	m.b = append(m.b, x...)
	return api.OK
}

func (m *model) clean() {
	n := 0
	for _, r := range whole(m.b) {
		n += len(laid(0, r))
	}
	m.b, m.lasts = m.b[:n], n
}

func (m *model) crash(keep, torn int) api.Errno {
	if keep < 0 || torn < 0 || torn > 64 {
		return api.ErrRange
	}
	var b []byte
	for at := 0; at < len(m.b); at += 64 {
		n := (at - m.lasts) / 64
		next := slices.Clone(m.b[at : at+64])
		if at >= m.lasts && n == keep {
			clear(next[torn:])
		}
		if at < m.lasts || n < keep || n == keep && torn > 0 {
			b = append(b, next...)
		}
	}
	m.b, m.lasts = b, len(b)
	return api.OK
}

// step does to a log and to its model what five bytes say.
func step(t *testing.T, l *blocks.Log, m *model, op []byte) {
	t.Helper()
	var e, want api.Errno
	switch op[0] % 8 {
	case 0, 1, 2, 3:
		n := int(op[1])
		if op[0]%8 == 3 {
			n *= 5
		}
		r := bytes.Repeat(op[2:5], n)[:n]
		e, want = l.Append(r), m.add(r)
	case 4:
		e = l.Sync()
		m.lasts = len(m.b)
	case 5:
		e = l.Clean()
		m.clean()
	default:
		keep, torn := int(op[1]%8)-1, int(op[2]%70)-2
		e, want = l.Crash(keep, torn), m.crash(keep, torn)
	}
	if e != want {
		t.Fatalf("% x: %d; want %d", op, e, want)
	}
	has(t, l, m.most, m.b)
}

// P5.1 to P5.4: whatever comes behind whatever.
func TestAnyOrder(t *testing.T) {
	r := rand.New(rand.NewSource(5))
	for range 300 {
		most := 1 + r.Intn(60)
		l, m := made(t, most), &model{most: most}
		for range 60 {
			op := make([]byte, 5)
			r.Read(op)
			if r.Intn(2) == 0 { // few sorts of bytes: what is torn is often like what was there
				op[2], op[3], op[4] = 0, op[3]%2, 0
			}
			step(t, l, m, op)
			if t.Failed() {
				return
			}
			if r.Intn(9) == 0 {
				l = l.Fork()
			}
		}
	}
}

// P5.1 to P5.4
func FuzzLog(f *testing.F) {
	f.Add([]byte{9, 0, 5, 97, 98, 99, 4, 0, 0, 0, 0, 0, 80, 1, 2, 3, 6, 2, 30, 0, 0, 1, 9, 1, 1, 1, 5, 0, 0, 0, 0})
	f.Add([]byte{20, 3, 200, 1, 0, 0, 7, 5, 40, 0, 0, 0, 56, 0, 0, 0, 0, 57, 0, 0, 0, 5, 0, 0, 0, 0})
	f.Fuzz(func(t *testing.T, ops []byte) {
		if len(ops) == 0 {
			return
		}
		most := 1 + int(ops[0])%40
		l, m := made(t, most), &model{most: most}
		for op := range slices.Chunk(ops[1:], 5) {
			if len(op) == 5 {
				step(t, l, m, op)
			}
		}
	})
}
