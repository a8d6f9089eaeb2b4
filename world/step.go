package world

import (
	"escritoire/api"
	"escritoire/causal"
	"escritoire/client"
)

// deed does a step whose members are there.
type deed func(*World, Step) api.Errno

// deeds are what steps do, by their numbers.
func deeds() [Power + 1]deed {
	return [Power + 1]deed{
		Write:    (*World).write,
		Erase:    (*World).erase,
		Give:     (*World).give,
		Take:     (*World).take,
		Deliver:  (*World).deliver,
		Inject:   (*World).inject,
		Attest:   (*World).attest,
		Snapshot: (*World).snapshot,
		Power:    (*World).power,
	}
}

func (w *World) write(s Step) api.Errno { return w.handed(w.client(s.Who).Write(s.I, s.X)) }

func (w *World) erase(s Step) api.Errno { return w.handed(w.client(s.Who).Erase(s.I)) }

func (w *World) give(s Step) api.Errno { return w.handed(w.client(s.Who).Give(s.Other, s.Role)) }

func (w *World) take(s Step) api.Errno { return w.handed(w.client(s.Who).Take(s.Other, s.Draw)) }

func (w *World) deliver(s Step) api.Errno {
	if s.I < 0 || s.I >= len(w.frames) {
		return api.ErrRange
	}
	return w.client(s.Who).Receive(w.frames[s.I])
}

func (w *World) inject(s Step) api.Errno { return w.client(s.Who).Receive(s.Bytes) }

func (w *World) attest(s Step) api.Errno {
	return w.client(s.Who).Hear(s.Other, w.client(s.Other).Attest())
}

// snapshot asks that nothing of Who's gets lost: a number of its own that it used twice would be two tales.
func (w *World) snapshot(s Step) api.Errno {
	if !causal.Within(w.Vector(s.Who), w.Vector(s.Other)) {
		return api.ErrRange
	}
	b, err := w.client(s.Other).Snapshot(s.Who)
	if err != api.OK {
		return err
	}
	c, err := client.Restore(s.Who, w.seed, s.Other, b)
	if err != api.OK {
		return err
	}
	w.clients[s.Who] = c
	return api.OK
}

// power has a fork write: its last record is the one that Who's disk has not synced yet, and what it knows is what Who knows then, if all of the record is there.
func (w *World) power(s Step) api.Errno {
	if s.Keep < 0 {
		return api.ErrRange
	}
	c := w.client(s.Who)
	written := c.Fork()
	b, err := written.Write(s.I, s.X)
	if err != api.OK {
		return err
	}
	records, d := written.Disk().Records(), c.Disk()
	d.Write(records[len(records)-1])
	d.Power(s.Keep)
	loaded := client.Load(s.Who, w.seed, d)
	w.clients[s.Who] = loaded
	if loaded.Vector() != written.Vector() {
		return api.ErrNone
	}
	return w.handed(b, api.OK)
}

// handed puts a frame's bytes behind the relay's, if there is no error.
func (w *World) handed(b []byte, err api.Errno) api.Errno {
	if err == api.OK {
		w.frames = append(w.frames, b)
	}
	return err
}
