package client

import (
	"escritoire/aead"
	"escritoire/api"
	"escritoire/keys"
)

const headSize = 4

// Snapshot is all that one has, sealed for a member; Restore is a client of one.
func (c *Client) Snapshot(to byte) ([]byte, api.Errno) {
	if err := c.refuse(to); err != api.OK {
		return nil, err
	}
	if c.Members()[to] == api.NoRole {
		return nil, api.ErrRole
	}
	head := [headSize]byte(bytesOf(len(c.log), headSize))
	nonce := snapshotNonce(c.Own(), to, head)
	return append(head[:], aead.Seal(c.ring.Pair(c.Own(), to), nonce, head[:], c.laidOut())...), api.OK
}

func Restore(own byte, seed api.Key, from byte, b []byte) (*Client, api.Errno) {
	if own >= api.Authors || from >= api.Authors {
		return nil, api.ErrRange
	}
	if own == from {
		return nil, api.ErrOwn
	}
	c := New(own, seed)
	records, err := opened(c.ring, from, b)
	if err != api.OK {
		return nil, err
	}
	// All are read ahead of the first one's being written: that one can't be is told ahead of the disk's error.
	if !c.read(records) {
		return nil, api.ErrForm
	}
	for _, r := range records {
		if err := c.store(r); err != api.OK {
			return nil, err
		}
	}
	return c, api.OK
}

// laidOut are the epochs with their keys, and the frames of the log.
func (k known) laidOut() []byte {
	epochs := k.ring.Epochs()
	b := bytesOf(len(epochs), 1)
	for _, epoch := range epochs {
		key, _ := k.ring.Key(epoch)
		b = append(b, epoch.Author)
		b = append(b, bytesOf(int(epoch.Seq), 4)...)
		b = append(b, key[:]...)
	}
	b = append(b, bytesOf(len(k.log), 2)...)
	for _, f := range k.log {
		b = append(b, bytesOf(len(f), 2)...)
		b = append(b, f...)
	}
	return b
}

// opened are the records of a snapshot that another one has sealed for a ring's owner.
func opened(ring *keys.Ring, from byte, b []byte) ([][]byte, api.Errno) {
	if len(b) < headSize {
		return nil, api.ErrForm
	}
	head, own := [headSize]byte(b[:headSize]), ring.Own()
	laid, err := aead.Open(ring.Pair(from, own), snapshotNonce(from, own, head), head[:], b[headSize:])
	if err != api.OK {
		return nil, err
	}
	r := &reader{left: laid}
	records := epochRecords(r)
	frames := frameRecords(r)
	told := &reader{left: head[:]}
	if !r.whole() || told.number(headSize) != uint32(len(frames)) {
		return nil, api.ErrForm
	}
	return append(records, frames...), api.OK
}

func epochRecords(r *reader) [][]byte {
	var l [][]byte
	for range r.number(1) {
		l = append(l, record(ofEpoch, r.take(dotSize+keySize)))
	}
	return l
}

func frameRecords(r *reader) [][]byte {
	var l [][]byte
	for range r.number(2) {
		size := r.number(2)
		l = append(l, record(ofFrame, r.take(int(size))))
	}
	return l
}

// snapshotNonce ends otherwise than those of wraps, which are sealed under the same key.
func snapshotNonce(from, to byte, head [headSize]byte) api.Nonce {
	return api.Nonce{from, to, 0, 0, head[0], head[1], head[2], head[3], 255, 255, 255, 255}
}

// bytesOf are so many of a number, the highest first.
func bytesOf(n, size int) []byte {
	b := make([]byte, size)
	for i := range b {
		b[size-1-i] = byte(n >> (8 * i))
	}
	return b
}
