// Package quant is sizes as texts. See ../../shared/doc/01-quant.md.
package quant

import (
	"strconv"

	"wharfinger/api"
)

// letters are those that suffixes begin with, the least unit's first.
const letters = "KMGT"

const maxDigits = 16

// Parse is the size that a text says.
func Parse(s string) (int64, api.Errno) {
	n := countDigits(s)
	unit, ok := Unit(s[n:])
	if !ok || n < 1 || n > maxDigits || n > 1 && s[0] == '0' {
		return 0, api.ErrForm
	}
	many := number(s[:n])
	if many > api.MaxSize/unit { // many*unit itself may go round
		return 0, api.ErrRange
	}
	return many * unit, api.OK
}

// Print is the text of a size, in the greatest unit that it is a multiple of.
func Print(n int64) (string, api.Errno) {
	if n < 0 || n > api.MaxSize {
		return "", api.ErrRange
	}
	suffix, unit := greatest(n)
	return strconv.FormatInt(n/unit, 10) + suffix, api.OK
}

// Unit is what a suffix stands for.
func Unit(suffix string) (int64, bool) {
	if suffix == "" {
		return 1, true
	}
	for s, unit := range binaries {
		if s == suffix {
			return unit, true
		}
	}
	for s, unit := range decimals {
		if s == suffix {
			return unit, true
		}
	}
	return 0, false
}

// Up is a size rounded up to a multiple of a unit.
func Up(n, unit int64) (int64, api.Errno) {
	if n < 0 || n > api.MaxSize || unit < 1 || unit > api.MaxSize {
		return 0, api.ErrRange
	}
	up := (n + unit - 1) / unit * unit
	if up > api.MaxSize {
		return 0, api.ErrRange
	}
	return up, api.OK
}

// Fits tells whether there is room for a size.
func Fits(n, room int64) bool {
	return n >= 0 && n <= room
}

// binaries yields the units that are powers of 1024, the greatest first, as Print looks for them.
func binaries(yield func(suffix string, unit int64) bool) {
	for i := range len(letters) {
		power := len(letters) - i
		if !yield(letters[power-1:power]+"i", int64(1)<<(10*power)) {
			return
		}
	}
}

// decimals yields the units that are powers of 1000, the least first.
func decimals(yield func(suffix string, unit int64) bool) {
	unit := int64(1)
	for i := range len(letters) {
		unit *= 1000
		if !yield(letters[i:i+1], unit) {
			return
		}
	}
}

// greatest is the greatest unit that a size is printed in. 0 is a multiple of all of them, but has none.
func greatest(n int64) (string, int64) {
	if n == 0 {
		return "", 1
	}
	for suffix, unit := range binaries {
		if n%unit == 0 {
			return suffix, unit
		}
	}
	return "", 1
}

func countDigits(s string) int {
	for i, r := range s {
		if r < '0' || r > '9' {
			return i
		}
	}
	return len(s)
}

func number(digits string) int64 {
	n := int64(0)
	for _, r := range digits {
		n = n*10 + int64(r-'0')
	}
	return n
}
