package client

import "escritoire/api"

// reader goes through bytes. Once there are too few it answers nothing more, so that it is asked only at the end how it went.
type reader struct {
	left  []byte
	short bool
}

// take are the next bytes, where they lie: they are only for looking at, or for copying.
func (r *reader) take(n int) []byte {
	if r.short || n > len(r.left) {
		r.short = true
		return nil
	}
	taken := r.left[:n:n]
	r.left = r.left[n:]
	return taken
}

// number is one of so many bytes, at most 4.
func (r *reader) number(size int) uint32 {
	var n uint32
	for _, x := range r.take(size) {
		n = n<<8 | uint32(x)
	}
	return n
}

func (r *reader) dot() api.Dot {
	author := byte(r.number(1))
	return api.Dot{Author: author, Seq: r.number(4)}
}

func (r *reader) key() api.Key {
	var k api.Key
	copy(k[:], r.take(keySize))
	return k
}

// whole tells whether there were enough bytes, and none is left.
func (r *reader) whole() bool { return !r.short && len(r.left) == 0 }
