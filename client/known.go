package client

import (
	"bytes"
	"slices"

	"escritoire/api"
	"escritoire/chain"
	"escritoire/doc"
	"escritoire/frame"
	"escritoire/keys"
)

// known is what a client knows. The bytes in a log are never changed, so that forks may share them.
type known struct {
	ring  *keys.Ring
	doc   *doc.Doc
	chain *chain.Chain
	log   [][]byte
}

// nothing is what a client knows at first.
func nothing(own byte, seed api.Key) known {
	return known{ring: keys.New(own, seed), doc: doc.New(), chain: chain.New()}
}

func (k known) fork() known {
	return known{k.ring.Fork(), k.doc.Fork(), k.chain.Fork(), slices.Clone(k.log)}
}

// behind is what is known once a frame that was checked is kept, or why it can't be. Whether an event has force is told only once it is applied, so that all is done to a fork.
func (k known) behind(f api.Frame, b []byte) (known, api.Errno) {
	if err := k.chain.Look(f); err != api.OK {
		return known{}, err
	}
	ring := k.unwrapped(f)
	e, err := frame.Open(ring, f)
	if err != api.OK {
		return known{}, err
	}
	next := k.fork()
	if err := next.keep(f, e, b); err != api.OK {
		return known{}, err
	}
	switch {
	case next.changesMembers(e):
		next.ring = ring
	case !k.ring.Has(f.Epoch):
		return known{}, api.ErrKey
	}
	return next, api.OK
}

// keep takes a frame that is its author's next one, with what it says.
func (k *known) keep(f api.Frame, e api.Event, b []byte) api.Errno {
	if err := k.doc.Apply(e); err != api.OK {
		return err
	}
	k.chain.Add(f)
	k.log = append(k.log, bytes.Clone(b))
	return api.OK
}

// unwrapped is a ring that has the wraps for oneself, too. Those for others, and those of one's own frames, are refused by the ring itself.
func (k known) unwrapped(f api.Frame) *keys.Ring {
	ring := k.ring.Fork()
	for _, w := range f.Wraps {
		ring.Unwrap(f.Author, w)
	}
	return ring
}

// changesMembers tells whether an event that was applied is a grant or a revoke that has force: only its author may hand out keys.
func (k known) changesMembers(e api.Event) bool {
	return (e.Kind == api.Grant || e.Kind == api.Revoke) && k.doc.Force(e.Dot)
}
