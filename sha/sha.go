// Package sha is the digest SHA-256. See ../../shared/doc/01-sha.md.
package sha

import (
	"iter"
	"math/bits"

	"escritoire/api"
)

const (
	blockSize  = 64
	lengthSize = 8
	wordSize   = 4
	mark       = 0x80
)

// roundWords are the words K.
var roundWords = [64]uint32{
	0x428a2f98, 0x71374491, 0xb5c0fbcf, 0xe9b5dba5, 0x3956c25b, 0x59f111f1, 0x923f82a4, 0xab1c5ed5,
	0xd807aa98, 0x12835b01, 0x243185be, 0x550c7dc3, 0x72be5d74, 0x80deb1fe, 0x9bdc06a7, 0xc19bf174,
	0xe49b69c1, 0xefbe4786, 0x0fc19dc6, 0x240ca1cc, 0x2de92c6f, 0x4a7484aa, 0x5cb0a9dc, 0x76f988da,
	0x983e5152, 0xa831c66d, 0xb00327c8, 0xbf597fc7, 0xc6e00bf3, 0xd5a79147, 0x06ca6351, 0x14292967,
	0x27b70a85, 0x2e1b2138, 0x4d2c6dfc, 0x53380d13, 0x650a7354, 0x766a0abb, 0x81c2c92e, 0x92722c85,
	0xa2bfe8a1, 0xa81a664b, 0xc24b8b70, 0xc76c51a3, 0xd192e819, 0xd6990624, 0xf40e3585, 0x106aa070,
	0x19a4c116, 0x1e376c08, 0x2748774c, 0x34b0bcb5, 0x391c0cb3, 0x4ed8aa4a, 0x5b9cca4f, 0x682e6ff3,
	0x748f82ee, 0x78a5636f, 0x84c87814, 0x8cc70208, 0x90befffa, 0xa4506ceb, 0xbef9a3f7, 0xc67178f2,
}

// Sum is the digest of bytes.
func Sum(b []byte) api.Key {
	s := Start()
	for block := range blocks(Pad(b)) {
		s = Step(s, block)
	}
	return joined(s)
}

// Pad are the bytes that are digested: with 80 behind, zeros, and the number of bits.
func Pad(b []byte) []byte {
	padded := make([]byte, paddedSize(len(b)))
	copy(padded, b)
	padded[len(b)] = mark
	bitCount := uint64(len(b)) * 8
	for i := range lengthSize {
		padded[len(padded)-1-i] = byte(bitCount >> (8 * i))
	}
	return padded
}

// State is the eight words that are at hand between two blocks; Start those ahead of the first one; Step those behind a block.
type State [8]uint32

func Start() State {
	return State{
		0x6a09e667, 0xbb67ae85, 0x3c6ef372, 0xa54ff53a,
		0x510e527f, 0x9b05688c, 0x1f83d9ab, 0x5be0cd19,
	}
}

func Step(s State, block []byte) State {
	if len(block) != blockSize {
		return s
	}
	next := mixed(s, spread(words(block)))
	for i := range next {
		next[i] += s[i]
	}
	return next
}

// paddedSize makes room for the mark and the length, and rounds up to whole blocks.
func paddedSize(n int) int {
	return (n+lengthSize)/blockSize*blockSize + blockSize
}

// blocks goes through bytes that are whole blocks; each one is cut so that nothing can be put behind it.
func blocks(padded []byte) iter.Seq[[]byte] {
	return func(yield func([]byte) bool) {
		for i := 0; i < len(padded); i += blockSize {
			if !yield(padded[i : i+blockSize : i+blockSize]) {
				return
			}
		}
	}
}

func words(block []byte) [16]uint32 {
	var w [16]uint32
	for i := range w {
		at := i * wordSize
		w[i] = word(block[at : at+wordSize : at+wordSize])
	}
	return w
}

func word(b []byte) uint32 {
	return uint32(b[0])<<24 | uint32(b[1])<<16 | uint32(b[2])<<8 | uint32(b[3])
}

// spread makes of a block's words those of all rounds.
func spread(first [16]uint32) [64]uint32 {
	var w [64]uint32
	copy(w[:], first[:])
	for i := len(first); i < len(w); i++ {
		x, y := w[i-2], w[i-15]
		near := right(x, 17) ^ right(x, 19) ^ x>>10
		far := right(y, 7) ^ right(y, 18) ^ y>>3
		w[i] = near + w[i-7] + far + w[i-16]
	}
	return w
}

// mixed is the state behind a block's 64 rounds; its words stand in variables, since a copy of the state in each round would be slow.
func mixed(s State, w [64]uint32) State {
	a, b, c, d, e, f, g, h := s[0], s[1], s[2], s[3], s[4], s[5], s[6], s[7]
	for i := range w {
		t := h + (right(e, 6) ^ right(e, 11) ^ right(e, 25)) + (e&f ^ ^e&g) + roundWords[i] + w[i]
		u := (right(a, 2) ^ right(a, 13) ^ right(a, 22)) + (a&b ^ a&c ^ b&c)
		a, b, c, d, e, f, g, h = t+u, a, b, c, d+t, e, f, g
	}
	return State{a, b, c, d, e, f, g, h}
}

func right(x uint32, n int) uint32 {
	return bits.RotateLeft32(x, -n)
}

func joined(s State) api.Key {
	var k api.Key
	for i, w := range s {
		at := i * wordSize
		k[at], k[at+1], k[at+2], k[at+3] = byte(w>>24), byte(w>>16), byte(w>>8), byte(w)
	}
	return k
}
