package blocks

import (
	"iter"
	"slices"

	"wharfinger/api"
)

const (
	headSize   = 8     // bytes ahead of a record's
	sumModulus = 65521 // the greatest prime number below 2^16
)

// block is one.
type block [api.BlockSize]byte

// torn is a block of whose bytes only the first n were written.
func (b block) torn(n int) block {
	var left block
	copy(left[:n:n], b[:])
	return left
}

// written are the blocks of a record of that number.
func written(record []byte, number int) []block {
	blocks := make([]block, Need(len(record)))
	head := headOf(record, number)
	rest := append(head[:], record...)
	for i := range blocks {
		n := copy(blocks[i][:], rest)
		rest = rest[n:]
	}
	return blocks
}

// headOf has each number's highest byte first; of the record's number only the lowest two bytes have room.
func headOf(record []byte, number int) [headSize]byte {
	length, sum := len(record), Sum(record)
	return [headSize]byte{
		byte(length >> 8), byte(length),
		byte(number >> 8), byte(number),
		byte(sum >> 24), byte(sum >> 16), byte(sum >> 8), byte(sum),
	}
}

// lengthOf is what the head on a record's first block says.
func lengthOf(first block) int {
	return int(first[0])<<8 | int(first[1])
}

// wholeRecords yields the whole records on the blocks, each in memory of its own; the first one has that number.
func wholeRecords(blocks []block, number int) iter.Seq[[]byte] {
	return func(yield func([]byte) bool) {
		rest := blocks
		for n := number; ; n++ {
			record, ok := firstRecord(rest, n)
			if !ok || !yield(record) {
				return
			}
			rest = rest[Need(len(record)):]
		}
	}
}

// firstRecord is the record that the blocks begin with; false, if it is not a whole one of that number.
func firstRecord(blocks []block, number int) ([]byte, bool) {
	if len(blocks) == 0 {
		return nil, false
	}
	length := lengthOf(blocks[0])
	need := Need(length)
	if need == 0 || need > len(blocks) {
		return nil, false
	}
	own := blocks[:need:need]
	end := headSize + length
	record := joined(own)[headSize:end:end] // without the room behind: bytes 0 that are not the record's
	if !slices.Equal(own, written(record, number)) {
		return nil, false
	}
	return record, true
}

func joined(blocks []block) []byte {
	b := make([]byte, 0, len(blocks)*api.BlockSize)
	for _, x := range blocks {
		b = append(b, x[:]...)
	}
	return b
}
