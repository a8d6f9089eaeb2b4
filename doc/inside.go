package doc

import (
	"maps"
	"slices"

	"escritoire/acl"
	"escritoire/api"
	"escritoire/causal"
	"escritoire/fugue"
)

// inside is what a document has: a tree and a book, whose calls are its own, and what was applied.
type inside struct {
	*fugue.Tree
	*acl.Book
	seen   api.Vector
	events []api.Event
	// force are the dots of those events that have it.
	force map[api.Dot]struct{}
}

func empty() inside {
	return inside{Tree: fugue.New(), Book: acl.New(), force: map[api.Dot]struct{}{}}
}

func (in *inside) copied() inside {
	return inside{
		Tree:   in.Tree.Fork(),
		Book:   in.Book.Fork(),
		seen:   in.seen,
		events: slices.Clone(in.events),
		force:  maps.Clone(in.force),
	}
}

// refuse is why an event may not be applied, if it may not.
func (in *inside) refuse(e api.Event) api.Errno {
	switch {
	case !causal.Right(e):
		return api.ErrForm
	case causal.Has(in.seen, e.Dot):
		return api.ErrKnown
	case !causal.Ready(in.seen, e):
		return api.ErrGap
	case in.full():
		return api.ErrFull
	}
	return api.OK
}

func (in *inside) full() bool { return len(in.events) >= api.MaxLog }

// apply takes an event that is not refused, so one of a kind that deeds has.
func (in *inside) apply(e api.Event) {
	if in.deeds()[e.Kind](e) {
		in.force[e.Dot] = struct{}{}
	}
	in.events = append(in.events, e)
	in.seen[e.Dot.Author]++
}

// deeds are what an event does, by its kind. Each does so only if the event has force, and tells whether it has.
func (in *inside) deeds() map[api.Kind]func(api.Event) bool {
	return map[api.Kind]func(api.Event) bool{
		api.Insert: in.insert,
		api.Delete: in.erase,
		api.Grant:  in.enter,
		api.Revoke: in.enter,
	}
}

// insert leaves it to the tree to refuse a node under one that is not there. The tree has no other cause to refuse: the event is right and new, and there are no more nodes than events.
func (in *inside) insert(e api.Event) bool {
	return in.allowed(e, api.Writer) && in.Insert(e.Dot, e.Parent, e.Right, e.Char) == api.OK
}

func (in *inside) erase(e api.Event) bool {
	return in.allowed(e, api.Writer) && in.Delete(e.Parent) == api.OK
}

func (in *inside) enter(e api.Event) bool {
	return in.allowed(e, api.Admin) && in.Add(e) == api.OK
}

// allowed asks for the author's role by what it had seen; what it had not seen by then takes nothing away from it.
func (in *inside) allowed(e api.Event, least api.Role) bool {
	return in.Role(e.Dot.Author, e.Past) >= least
}
