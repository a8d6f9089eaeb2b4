// Package mac is tags and keys that are derived. See ../../shared/doc/02-mac.md.
package mac

import (
	"escritoire/api"
	"escritoire/sha"
)

const (
	blockSize = 64
	innerTurn = 0x36
	outerTurn = 0x5c
	// maxExpand is 255 keys: a number of one byte counts no further.
	maxExpand = 8160
)

// Hmac is the tag of bytes under a key.
func Hmac(key, b []byte) api.Key { return tag(key, b) }

// Extract is a key of what is secret; Expand so many bytes of a key, for a purpose.
func Extract(salt, secret []byte) api.Key { return Hmac(salt, secret) }

func Expand(k api.Key, info []byte, n int) ([]byte, api.Errno) {
	if n < 0 || n > maxExpand {
		return nil, api.ErrRange
	}
	out := make([]byte, 0, n)
	var last []byte
	for i := 1; len(out) < n; i++ {
		t := tag(k[:], last, info, []byte{byte(i)})
		last = t[:]
		out = append(out, last[:min(len(last), n-len(out))]...)
	}
	return out, api.OK
}

// Equal tells whether bytes are the same, always looking at all: how long it takes must not tell where they differ.
func Equal(a, b []byte) bool {
	if len(a) != len(b) {
		return false
	}
	var unlike byte
	for i := range a {
		unlike |= a[i] ^ b[i]
	}
	return unlike == 0
}

// gathered is bytes of its own, to which others are added: never to those of a caller, whose spare room must stay as it is.
type gathered struct{ all []byte }

func (g *gathered) take(b []byte) { g.all = append(g.all, b...) }

// hash is one that is begun.
type hash struct{ gathered }

func (h *hash) sum() api.Key { return sha.Sum(h.all) }

// filledKey is a key that fills a block.
type filledKey [blockSize]byte

func fill(key []byte) filledKey {
	if len(key) > blockSize {
		d := sha.Sum(key)
		key = d[:]
	}
	var k filledKey
	copy(k[:], key)
	return k
}

func (k filledKey) inner() *hash { return k.begin(innerTurn) }
func (k filledKey) outer() *hash { return k.begin(outerTurn) }

func (k filledKey) begin(turn byte) *hash {
	for i := range k {
		k[i] ^= turn
	}
	h := &hash{}
	h.take(k[:])
	return h
}

// tag is the Hmac of parts that stand one behind the other.
func tag(key []byte, parts ...[]byte) api.Key {
	k := fill(key)
	first := pass(k, filledKey.inner, parts...)
	return pass(k, filledKey.outer, first[:])
}

// pass is one of the two that a tag takes: they differ only in how their hash is begun.
func pass(k filledKey, begin func(filledKey) *hash, parts ...[]byte) api.Key {
	h := begin(k)
	each(h.take, parts...)
	return h.sum()
}

func each(do func([]byte), parts ...[]byte) {
	for _, part := range parts {
		do(part)
	}
}
