package acl

import (
	"iter"

	"escritoire/api"
	"escritoire/causal"
)

// counting goes through the events that count and of which tells holds, in no order: nothing that is asked of them hangs on it.
func (b *Book) counting(tells func(api.Event) bool) iter.Seq[api.Event] {
	return func(yield func(api.Event) bool) {
		for _, x := range b.written {
			if x.counts && tells(x.Event) && !yield(x.Event) {
				return
			}
		}
	}
}

// last goes through those of the events that are not causal.Before another of them. What any of them saw is all that their pasts saw together, so each is held against that alone, and not against each other one; no event is in its own past.
func last(events iter.Seq[api.Event]) iter.Seq[api.Event] {
	return func(yield func(api.Event) bool) {
		var seen api.Vector
		for e := range events {
			seen = causal.Join(seen, e.Past)
		}
		for e := range events {
			if !causal.Has(seen, e.Dot) && !yield(e) {
				return
			}
		}
	}
}

// least is the least role that the events tell, if there are any. A revoke's is NoRole, which is below all others.
func least(events iter.Seq[api.Event]) (role api.Role, there bool) {
	for e := range events {
		if !there || e.Role < role {
			role, there = e.Role, true
		}
	}
	return role, there
}
