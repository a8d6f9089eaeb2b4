package causal

import (
	"iter"
	"maps"
	"slices"

	"escritoire/api"
	"escritoire/dots"
)

// Buffer is events that wait for others.
type Buffer struct {
	seen  api.Vector
	waits map[api.Dot]api.Event
}

// New is an empty one.
func New() *Buffer { return &Buffer{waits: map[api.Dot]api.Event{}} }

// Put takes an event, and answers those that may be taken now, in order; Seen is what was answered; Waiting those that wait.
func (b *Buffer) Put(e api.Event) ([]api.Event, api.Errno) {
	if err := b.refuse(e); err != api.OK {
		return nil, err
	}
	b.waits[e.Dot] = e
	return slices.Collect(b.taken()), api.OK
}

func (b *Buffer) Seen() api.Vector {
	if b == nil {
		return api.Vector{}
	}
	return b.seen
}

func (b *Buffer) Waiting() []api.Event {
	if b == nil {
		return nil
	}
	return slices.Collect(b.inOrder())
}

// Fork is another buffer with the same.
func (b *Buffer) Fork() *Buffer {
	if b == nil {
		return nil
	}
	return &Buffer{seen: b.seen, waits: maps.Clone(b.waits)}
}

// refuse is why an event may not be put, if it may not.
func (b *Buffer) refuse(e api.Event) api.Errno {
	if b == nil {
		return api.ErrNil
	}
	if !Right(e) {
		return api.ErrForm
	}
	if Has(b.seen, e.Dot) {
		return api.ErrKnown
	}
	if known, there := b.waits[e.Dot]; there {
		if known != e {
			return api.ErrFork
		}
		return api.ErrKnown
	}
	if b.full() || !Ready(b.seen, e) && len(b.waits) >= api.MaxWait {
		return api.ErrFull
	}
	return api.OK
}

// full tells whether MaxLog events were answered: each of them is one of seen.
func (b *Buffer) full() bool {
	answered := 0
	for _, n := range b.seen {
		answered += int(n)
	}
	return answered >= api.MaxLog
}

// inOrder goes through what waits, in the order of the dots.
func (b *Buffer) inOrder() iter.Seq[api.Event] {
	return func(yield func(api.Event) bool) {
		for _, d := range slices.SortedFunc(maps.Keys(b.waits), dots.Compare) {
			if !yield(b.waits[d]) {
				return
			}
		}
	}
}

// taken takes out, one after the other, what is ready by then.
func (b *Buffer) taken() iter.Seq[api.Event] {
	return func(yield func(api.Event) bool) {
		for !b.full() {
			e, there := b.firstReady()
			if !there {
				return
			}
			delete(b.waits, e.Dot)
			b.seen[e.Dot.Author]++
			if !yield(e) {
				return
			}
		}
	}
}

func (b *Buffer) firstReady() (api.Event, bool) {
	for e := range b.inOrder() {
		if Ready(b.seen, e) {
			return e, true
		}
	}
	return api.Event{}, false
}
