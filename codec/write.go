package codec

import "wharfinger/api"

// The flags of an object, in their byte.
const (
	deleting byte = 1 << iota
	hold
	keep
	wait
	flagsEnd // above all bytes of flags
)

// The byte of a change that tells whether its object is gone.
const (
	there byte = iota
	gone
)

// A number's byte has so many bits of it, and one that tells that there are more.
const (
	numberBits = 7
	more       = 1 << numberBits
)

func appendChange(b []byte, e api.Event) []byte {
	b = appendNumbers(b, e.Version)
	if e.Gone {
		b = append(b, gone)
	} else {
		b = append(b, there)
	}
	return appendObject(b, e.Object)
}

func appendObject(b []byte, o api.Object) []byte {
	b = append(b, byte(o.Kind))
	b = appendTexts(b, o.Name)
	b = appendNumbers(b, o.Version, o.Born)
	b = append(b, flags(o))
	b = appendTexts(b, o.Class)
	b = appendNumbers(b, uint64(o.Size), uint64(o.Got))
	b = append(b, byte(o.Mode))
	b = appendTexts(b, o.Zone, o.Node, o.Claim, o.Volume, o.Source)
	b = append(b, byte(o.Phase))
	return appendNumbers(b, o.Num, o.Tag)
}

func flags(o api.Object) byte {
	return flag(o.Deleting, deleting) | flag(o.Hold, hold) | flag(o.Keep, keep) | flag(o.Wait, wait)
}

func flag(on bool, bit byte) byte {
	if on {
		return bit
	}
	return 0
}

func appendTexts(b []byte, texts ...string) []byte {
	for _, s := range texts {
		b = appendNumbers(b, uint64(len(s)))
		b = append(b, s...)
	}
	return b
}

func appendNumbers(b []byte, numbers ...uint64) []byte {
	for _, n := range numbers {
		for ; n >= more; n >>= numberBits {
			b = append(b, byte(n)|more)
		}
		b = append(b, byte(n))
	}
	return b
}
