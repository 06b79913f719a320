package quant_test

import (
	"math"
	"strconv"
	"strings"
	"testing"

	"wharfinger/api"
	"wharfinger/quant"
)

// sizes are some from all over the range, with those beside each power of 2 and of 10.
func sizes() []int64 {
	l := []int64{0, api.MaxSize}
	for n := range int64(3000) {
		l = append(l, n)
	}
	for shift := range 51 {
		for near := int64(-2); near <= 2; near++ {
			l = append(l, int64(1)<<shift+near, 3*(int64(1)<<shift)+near)
		}
	}
	for n := int64(1); n <= api.MaxSize; n *= 10 {
		l = append(l, n-1, n, n+1)
	}
	for n := int64(1); n <= api.MaxSize; n = n*7 + 3 {
		l = append(l, n, n&^1023)
	}
	var in []int64
	for _, n := range l {
		if n >= 0 && n <= api.MaxSize {
			in = append(in, n)
		}
	}
	return in
}

// P1.1
func TestUnit(t *testing.T) {
	for s, want := range map[string]int64{
		"": 1, "K": 1000, "M": 1000000, "G": 1000000000, "T": 1000000000000,
		"Ki": 1 << 10, "Mi": 1 << 20, "Gi": 1 << 30, "Ti": 1 << 40,
	} {
		if n, ok := quant.Unit(s); n != want || !ok {
			t.Errorf("Unit(%q) = %d, %v", s, n, ok)
		}
	}
	for _, s := range []string{
		"k", "m", "g", "t", "ki", "KI", "kI", "iK", "i", "P", "Pi", "E", "Ei", "B", "KB", "KiB", "KK", "KiKi",
		" ", " K", "K ", "Ki ", "\x00", "K\x00", "\xff", "K\xff", "K\u0131", "\u212a", "0", "1", "1K", "KM", "KMGT", "Kii",
	} {
		if n, ok := quant.Unit(s); n != 0 || ok {
			t.Errorf("Unit(%q) = %d, %v", s, n, ok)
		}
	}
}

// P1.1
func TestParse(t *testing.T) {
	for s, want := range map[string]int64{
		"0": 0, "1": 1, "7": 7, "10": 10, "100": 100, "1024": 1024,
		"1K": 1e3, "3M": 3e6, "4G": 4e9, "5T": 5e12,
		"1Ki": 1 << 10, "3Mi": 3 << 20, "10Gi": 10737418240, "7Ti": 7 << 40,
		"0K": 0, "0T": 0, "0Ki": 0, "0Ti": 0,
		"1125899906842624": 1 << 50, "1125899906842623": 1<<50 - 1, "1125899906842K": 1125899906842000,
		"1125899906M": 1125899906000000, "1125899G": 1125899000000000, "1125T": 1125000000000000,
		"1099511627776Ki": 1 << 50, "1073741824Mi": 1 << 50, "1048576Gi": 1 << 50, "1024Ti": 1 << 50,
	} {
		if n, e := quant.Parse(s); n != want || e != api.OK {
			t.Errorf("Parse(%q) = %d, %d", s, n, e)
		}
	}
}

// P1.1
func TestParseWrong(t *testing.T) {
	for s, want := range map[string]api.Errno{
		"": api.ErrForm, "K": api.ErrForm, "Gi": api.ErrForm, "i": api.ErrForm,
		"00": api.ErrForm, "01": api.ErrForm, "07": api.ErrForm, "00Ki": api.ErrForm, "01Ti": api.ErrForm,
		"-1": api.ErrForm, "-0": api.ErrForm, "+1": api.ErrForm, " 1": api.ErrForm, "1 ": api.ErrForm, "1 Ki": api.ErrForm,
		"1k": api.ErrForm, "1ki": api.ErrForm, "1KI": api.ErrForm, "1KiB": api.ErrForm, "1Pi": api.ErrForm, "1P": api.ErrForm,
		"1.5Gi": api.ErrForm, "1e3": api.ErrForm, "0x10": api.ErrForm, "1_0": api.ErrForm, "1,0": api.ErrForm,
		"1Ki1": api.ErrForm, "Ki1": api.ErrForm, "1\x00": api.ErrForm, "\xff": api.ErrForm, "1\xff": api.ErrForm,
		"\uff11": api.ErrForm, "1\uff11": api.ErrForm, "\u0663": api.ErrForm, "1\n": api.ErrForm, "/": api.ErrForm, ":": api.ErrForm,
		"10000000000000000": api.ErrForm, "12345678901234567": api.ErrForm, "00000000000000000": api.ErrForm,
		"9223372036854775808": api.ErrForm, "18446744073709551616": api.ErrForm,
		strings.Repeat("1", 1000): api.ErrForm, strings.Repeat("1", 1000) + "Ki": api.ErrForm, strings.Repeat("K", 1000): api.ErrForm,
		"9999999999999999Pi": api.ErrForm, // ahead of ErrRange
		"9999999999999999":   api.ErrRange, "1125899906842625": api.ErrRange, "1125899906843K": api.ErrRange,
		"1125899907M": api.ErrRange, "1125900G": api.ErrRange, "1126T": api.ErrRange,
		"1099511627777Ki": api.ErrRange, "1073741825Mi": api.ErrRange, "1048577Gi": api.ErrRange, "1025Ti": api.ErrRange,
		"9999999999999999K": api.ErrRange, "9999999999999999T": api.ErrRange, "9999999999999999Ti": api.ErrRange,
		"16777216Ti": api.ErrRange, "18014398509481984Ki": api.ErrForm, "9007199254740992Ki": api.ErrRange, // 2^64, 2^63: go round
	} {
		if n, e := quant.Parse(s); n != 0 || e != want {
			t.Errorf("Parse(%q) = %d, %d; want %d", s, n, e, want)
		}
	}
}

// P1.1
func TestPrint(t *testing.T) {
	for n, want := range map[int64]string{
		0: "0", 1: "1", 1000: "1000", 1023: "1023", 1024: "1Ki", 1025: "1025", 1536: "1536", 2048: "2Ki", 10240: "10Ki",
		1023 << 10: "1023Ki", 1 << 20: "1Mi", 1<<20 + 1<<10: "1025Ki", 1<<20 + 1: "1048577", 1e6: "1000000", 1024000: "1000Ki",
		3 << 30: "3Gi", 10 << 30: "10Gi", 1023 << 30: "1023Gi", 1 << 40: "1Ti", 1025 << 30: "1025Gi",
		1023 << 40: "1023Ti", 1 << 50: "1024Ti", 1<<50 - 1: "1125899906842623", 1<<50 - 1<<10: "1099511627775Ki",
	} {
		if s, e := quant.Print(n); s != want || e != api.OK {
			t.Errorf("Print(%d) = %q, %d; want %q", n, s, e, want)
		}
	}
	for _, n := range []int64{-1, -1024, math.MinInt64, 1<<50 + 1, 1<<50 + 1<<10, 1 << 51, math.MaxInt64} {
		if s, e := quant.Print(n); s != "" || e != api.ErrRange {
			t.Errorf("Print(%d) = %q, %d", n, s, e)
		}
	}
}

// P1.2
func TestUp(t *testing.T) {
	for _, c := range []struct{ n, unit, want int64 }{
		{0, 1, 0}, {0, 4, 0}, {0, api.MaxSize, 0}, {1, 1, 1}, {1, 4, 4}, {4, 4, 4}, {5, 4, 8}, {7, 10, 10}, {10, 7, 14},
		{1, api.MaxSize, api.MaxSize}, {api.MaxSize, 1, api.MaxSize}, {api.MaxSize, 2, api.MaxSize},
		{api.MaxSize, api.MaxSize, api.MaxSize}, {api.MaxSize - 1, api.MaxSize, api.MaxSize},
		{api.MaxSize - 1, api.MaxSize - 1, api.MaxSize - 1}, {api.MaxSize - 1, 4, api.MaxSize},
		{1, api.MaxSize - 1, api.MaxSize - 1}, {1<<30 + 1, 1 << 30, 1 << 31},
	} {
		if up, e := quant.Up(c.n, c.unit); up != c.want || e != api.OK {
			t.Errorf("Up(%d, %d) = %d, %d; want %d", c.n, c.unit, up, e, c.want)
		}
	}
	for _, c := range [][2]int64{
		{-1, 1}, {math.MinInt64, 1}, {api.MaxSize + 1, 1}, {math.MaxInt64, 1},
		{0, 0}, {1, 0}, {1, -1}, {1, math.MinInt64}, {0, api.MaxSize + 1}, {1, api.MaxSize + 1}, {1, math.MaxInt64}, {0, math.MaxInt64},
		{-1, -1}, {math.MaxInt64, math.MaxInt64}, {math.MinInt64, math.MinInt64}, {math.MinInt64, -1},
		{api.MaxSize, 3}, {api.MaxSize, 5}, {api.MaxSize - 1, 3 << 20}, {api.MaxSize, api.MaxSize - 1}, {api.MaxSize/2 + 2, api.MaxSize/2 + 1},
	} {
		if up, e := quant.Up(c[0], c[1]); up != 0 || e != api.ErrRange {
			t.Errorf("Up(%d, %d) = %d, %d", c[0], c[1], up, e)
		}
	}
}

// P1.2
func TestUpIsTheLeastMultiple(t *testing.T) {
	for n := range int64(120) {
		for unit := int64(1); unit <= 60; unit++ {
			want := int64(0)
			for want < n {
				want += unit
			}
			if up, e := quant.Up(n, unit); up != want || e != api.OK {
				t.Errorf("Up(%d, %d) = %d, %d; want %d", n, unit, up, e, want)
			}
		}
	}
}

// P1.2
func TestFits(t *testing.T) {
	for _, c := range []struct {
		n, room int64
		want    bool
	}{
		{0, 0, true}, {0, 1, true}, {1, 0, false}, {5, 5, true}, {5, 6, true}, {6, 5, false},
		{-1, 5, false}, {-1, -1, false}, {-2, -1, false}, {0, -1, false}, {1, -1, false}, {-1, 0, false},
		{math.MinInt64, 0, false}, {math.MinInt64, math.MaxInt64, false}, {0, math.MinInt64, false},
		{math.MaxInt64, math.MaxInt64, true}, {math.MaxInt64, math.MaxInt64 - 1, false}, {api.MaxSize + 1, api.MaxSize + 1, true},
	} {
		if ok := quant.Fits(c.n, c.room); ok != c.want {
			t.Errorf("Fits(%d, %d) = %v", c.n, c.room, ok)
		}
	}
}

// P1.3
func TestParseOfPrint(t *testing.T) {
	for _, n := range sizes() {
		s, e := quant.Print(n)
		if e != api.OK {
			t.Fatalf("Print(%d): %d", n, e)
		}
		if back, e := quant.Parse(s); back != n || e != api.OK {
			t.Errorf("Parse(Print(%d) = %q) = %d, %d", n, s, back, e)
		}
	}
}

// P1.4
func TestPrintTakesTheGreatestUnit(t *testing.T) {
	for _, n := range sizes() {
		s, _ := quant.Print(n)
		digits := strings.TrimRight(s, "KMGTi")
		many, err := strconv.ParseInt(digits, 10, 64)
		if err != nil {
			t.Fatalf("Print(%d) = %q", n, s)
		}
		if many%1024 == 0 && many != 0 && !strings.HasSuffix(s, "Ti") {
			t.Errorf("Print(%d) = %q", n, s)
		}
	}
}

// P1.1, P1.3, P1.4: of any text.
func FuzzParse(f *testing.F) {
	for _, s := range []string{"", "0", "10Gi", "07", "1024Ti", "1025Ti", "9999999999999999T", "\xff", "1k"} {
		f.Add(s)
	}
	f.Fuzz(func(t *testing.T, s string) {
		n, e := quant.Parse(s)
		if e != api.OK {
			if n != 0 || e != api.ErrForm && e != api.ErrRange {
				t.Errorf("Parse(%q) = %d, %d", s, n, e)
			}
			return
		}
		p, e := quant.Print(n)
		back, e2 := quant.Parse(p)
		if e != api.OK || e2 != api.OK || back != n {
			t.Errorf("Parse(%q) = %d, which Prints as %q, %d, %d", s, n, p, e, e2)
		}
	})
}
