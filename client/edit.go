package client

import (
	"escritoire/api"
	"escritoire/doc"
	"escritoire/frame"
	"escritoire/keys"
	"escritoire/wire"
)

// teller tells the event with which one does something.
type teller func(d *doc.Doc, own byte) (api.Event, api.Errno)

// edit is one of one's own.
type edit struct {
	tell teller
	// wrap are the wraps of its frame, out of a ring that becomes one's own.
	wrap func(ring *keys.Ring, e api.Event) ([]api.Wrap, api.Errno)
	// begin is what stands ahead of the frame in its record.
	begin []byte
}

// Write, Erase, Give, Take do so, and answer the frame's bytes.
func (c *Client) Write(i int, x byte) ([]byte, api.Errno) {
	return c.do(edit{
		tell:  func(d *doc.Doc, own byte) (api.Event, api.Errno) { return d.Write(own, i, x) },
		wrap:  noWraps,
		begin: record(ofFrame),
	})
}

func (c *Client) Erase(i int) ([]byte, api.Errno) {
	return c.do(edit{
		tell:  func(d *doc.Doc, own byte) (api.Event, api.Errno) { return d.Erase(own, i) },
		wrap:  noWraps,
		begin: record(ofFrame),
	})
}

func (c *Client) Give(who byte, role api.Role) ([]byte, api.Errno) {
	return c.do(edit{
		tell: aboutOther(who, func(d *doc.Doc, own byte) (api.Event, api.Errno) { return d.Give(own, who, role) }),
		wrap: func(ring *keys.Ring, _ api.Event) ([]api.Wrap, api.Errno) {
			return wrapsOf(ring, ring.Epochs(), []byte{who}), api.OK
		},
		begin: record(ofFrame),
	})
}

func (c *Client) Take(who byte, draw api.Key) ([]byte, api.Errno) {
	return c.do(edit{
		tell: aboutOther(who, func(d *doc.Doc, own byte) (api.Event, api.Errno) { return d.Take(own, who) }),
		wrap: func(ring *keys.Ring, e api.Event) ([]api.Wrap, api.Errno) {
			if err := begins(ring, e.Dot, draw); err != api.OK {
				return nil, err
			}
			return wrapsOf(ring, []api.Dot{e.Dot}, c.othersBehind(e)), api.OK
		},
		begin: record(ofDraw, draw[:]),
	})
}

// do seals an edit's event and lets it last ahead of keeping it, so that nothing is told that could be lost.
func (c *Client) do(x edit) ([]byte, api.Errno) {
	if c == nil {
		return nil, api.ErrNil
	}
	e, err := x.tell(c.doc, c.Own())
	if err != api.OK {
		return nil, err
	}
	ring := c.ring.Fork()
	wraps, err := x.wrap(ring, e)
	if err != api.OK {
		return nil, err
	}
	f, err := c.sealed(e, wraps)
	if err != api.OK {
		return nil, err
	}
	// What could be sealed has bytes.
	b, _ := wire.Frame(f)
	if err := c.store(append(x.begin, b...)); err != api.OK {
		return nil, err
	}
	c.keep(f, e, b)
	c.ring = ring
	return b, api.OK
}

// sealed is an event as one's next frame, under the epoch that is used now: a new one is for what comes behind it.
func (k known) sealed(e api.Event, wraps []api.Wrap) (api.Frame, api.Errno) {
	epoch, there := k.ring.Now()
	if !there {
		return api.Frame{}, api.ErrKey
	}
	last := k.chain.Heads()[k.ring.Own()]
	return frame.Seal(k.ring, last.Count+1, last.Sum, epoch, wraps, e)
}

// aboutOther refuses what one would tell of oneself.
func aboutOther(who byte, tell teller) teller {
	return func(d *doc.Doc, own byte) (api.Event, api.Errno) {
		if who == own {
			return api.Event{}, api.ErrOwn
		}
		return tell(d, own)
	}
}

func noWraps(*keys.Ring, api.Event) ([]api.Wrap, api.Errno) { return nil, api.OK }

// wrapsOf are those of epochs that a ring has, each for each of some others.
func wrapsOf(ring *keys.Ring, epochs []api.Dot, others []byte) []api.Wrap {
	var l []api.Wrap
	for _, epoch := range epochs {
		for _, to := range others {
			w, _ := ring.Wrap(to, epoch)
			l = append(l, w)
		}
	}
	return l
}

// begins adds a new epoch. That there is no room is told first, also of an epoch that somebody has wrapped for oneself ahead of its time.
func begins(ring *keys.Ring, epoch api.Dot, draw api.Key) api.Errno {
	if len(ring.Epochs()) >= api.MaxEpoch {
		return api.ErrFull
	}
	return ring.Add(epoch, draw)
}

// othersBehind are the members but oneself that have a role once an event is applied.
func (k known) othersBehind(e api.Event) []byte {
	d := k.doc.Fork()
	d.Apply(e)
	var l []byte
	for i, role := range d.Members() {
		if who := byte(i); role != api.NoRole && who != k.ring.Own() {
			l = append(l, who)
		}
	}
	return l
}
