package keys

import (
	"escritoire/api"
	"escritoire/mac"
)

const keySize = 32

// derived is a key of another one, for what a word and bytes behind it name.
func derived(k api.Key, word string, more ...byte) api.Key {
	// So few bytes have no error.
	b, _ := mac.Expand(k, joined([]byte(word), more), keySize)
	return api.Key(b)
}

// wrapNonce tells who wraps which epoch's key for whom: two members have one key for all that they wrap, so that no two wraps may have one nonce.
func wrapNonce(from, to byte, epoch api.Dot) api.Nonce {
	return api.Nonce(joined([]byte{from, to, epoch.Author, 0}, four(epoch.Seq), make([]byte, 4)))
}

// joined are parts one behind the other, in a list of their own.
func joined(parts ...[]byte) []byte {
	var all []byte
	for _, part := range parts {
		all = append(all, part...)
	}
	return all
}

// four are the bytes of a number, the highest first.
func four(n uint32) []byte {
	return []byte{byte(n >> 24), byte(n >> 16), byte(n >> 8), byte(n)}
}
