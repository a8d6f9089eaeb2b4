package doc

import "escritoire/api"

const (
	minChar = 1
	maxChar = 127
)

// Write, Erase, Give, Take are the events with which an author does so.
func (d *Doc) Write(author byte, i int, c byte) (api.Event, api.Errno) {
	if err := d.forbid(author, isChar(c), api.Writer); err != api.OK {
		return api.Event{}, err
	}
	parent, right, err := d.in.Place(i)
	if err != api.OK {
		return api.Event{}, err
	}
	return d.in.next(author, api.Event{Kind: api.Insert, Parent: parent, Right: right, Char: c}), api.OK
}

func (d *Doc) Erase(author byte, i int) (api.Event, api.Errno) {
	if err := d.forbid(author, true, api.Writer); err != api.OK {
		return api.Event{}, err
	}
	node, err := d.in.At(i)
	if err != api.OK {
		return api.Event{}, err
	}
	return d.in.next(author, api.Event{Kind: api.Delete, Parent: node}), api.OK
}

func (d *Doc) Give(author, who byte, role api.Role) (api.Event, api.Errno) {
	if err := d.forbid(author, isMember(who) && isGiven(role), api.Admin); err != api.OK {
		return api.Event{}, err
	}
	return d.in.next(author, api.Event{Kind: api.Grant, Who: who, Role: role}), api.OK
}

func (d *Doc) Take(author, who byte) (api.Event, api.Errno) {
	if err := d.forbid(author, isMember(who), api.Admin); err != api.OK {
		return api.Event{}, err
	}
	return d.in.next(author, api.Event{Kind: api.Revoke, Who: who}), api.OK
}

// forbid is why an author may not tell an event, if it may not: fit tells whether what else was handed in, but a place, may be.
func (d *Doc) forbid(author byte, fit bool, least api.Role) api.Errno {
	switch {
	case d == nil:
		return api.ErrNil
	case !isMember(author) || !fit:
		return api.ErrRange
	case d.in.full() || d.in.seen[author] >= api.MaxSeq:
		return api.ErrFull
	case d.in.Role(author, d.in.seen) < least:
		return api.ErrRole
	}
	return api.OK
}

// next is the event as its author's next one, that saw all.
func (in *inside) next(author byte, e api.Event) api.Event {
	e.Dot = api.Dot{Author: author, Seq: in.seen[author] + 1}
	e.Past = in.seen
	return e
}

func isMember(who byte) bool { return who < api.Authors }

func isChar(c byte) bool { return c >= minChar && c <= maxChar }

// isGiven tells whether a role is one that can be given: none is taken away by Take alone.
func isGiven(role api.Role) bool { return role >= api.Reader && role <= api.Admin }
