package disk

import (
	"iter"

	"escritoire/sha"
)

const (
	maxData    = 8192
	lengthSize = 2
	sumSize    = 8
	headSize   = lengthSize + sumSize
)

// headOf is what stands ahead of a record's data.
func headOf(data []byte) [headSize]byte {
	sum := sha.Sum(data)
	head := [headSize]byte{byte(len(data) >> 8), byte(len(data))}
	copy(head[lengthSize:], sum[:sumSize])
	return head
}

// whole goes through the whole records, each with its head; each one is cut so that nothing can be put behind it.
func whole(b []byte) iter.Seq[[]byte] {
	return func(yield func([]byte) bool) {
		rest := b
		for n := firstSize(rest); n > 0 && yield(rest[:n:n]); n = firstSize(rest) {
			rest = rest[n:]
		}
	}
}

// firstSize is how many bytes the record at the beginning has; 0, if it isn't whole.
func firstSize(b []byte) int {
	if len(b) < headSize {
		return 0
	}
	n := headSize + int(b[0])<<8 + int(b[1])
	if len(b) < n || [headSize]byte(b[:headSize]) != headOf(b[headSize:n:n]) {
		return 0
	}
	return n
}
