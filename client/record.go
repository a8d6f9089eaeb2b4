package client

import "escritoire/api"

// kind is a record's, its first byte.
type kind byte

const (
	// ofFrame: a frame's bytes.
	ofFrame kind = iota
	// ofDraw: the key of the epoch that one's own frame begins, and the frame's bytes.
	ofDraw
	// ofEpoch: an epoch, and its key.
	ofEpoch
)

const (
	keySize = 32
	dotSize = 5
)

// record is one of a kind, with parts one behind the other.
func record(k kind, parts ...[]byte) []byte {
	r := []byte{byte(k)}
	for _, part := range parts {
		r = append(r, part...)
	}
	return r
}

// read takes records in order, up to the first one that can't be; it tells whether all of them can.
func (k *known) read(records [][]byte) bool {
	for _, r := range records {
		next, can := k.recorded(&reader{left: r})
		if !can {
			return false
		}
		*k = next
	}
	return true
}

// recorded is what is known behind a record, if it can be.
func (k known) recorded(r *reader) (known, bool) {
	var draws []api.Key
	switch kind(r.number(1)) {
	case ofDraw:
		draws = append(draws, r.key())
		fallthrough
	case ofFrame:
		return k.recordedFrame(r, draws...)
	case ofEpoch:
		return k.recordedEpoch(r)
	}
	return known{}, false
}

// recordedFrame takes a frame, with the key of the epoch that it begins, if it begins one.
func (k known) recordedFrame(r *reader, draws ...api.Key) (known, bool) {
	// Of a record that is too short these are none, and so no frame.
	b := r.take(len(r.left))
	f, err := k.checked(b)
	if err != api.OK {
		return known{}, false
	}
	next, err := k.behind(f, b)
	if err != api.OK {
		return known{}, false
	}
	for _, draw := range draws {
		if f.Author != k.ring.Own() || next.ring.Add(api.Dot{Author: f.Author, Seq: f.Number}, draw) != api.OK {
			return known{}, false
		}
	}
	return next, true
}

func (k known) recordedEpoch(r *reader) (known, bool) {
	epoch, key := r.dot(), r.key()
	if !r.whole() {
		return known{}, false
	}
	next := k.fork()
	err := next.ring.Add(epoch, key)
	return next, err == api.OK || err == api.ErrKnown
}
