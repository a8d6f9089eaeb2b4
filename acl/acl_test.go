package acl_test

import (
	"math"
	"slices"
	"testing"

	"escritoire/acl"
	"escritoire/api"
)

func dot(author byte, seq uint32) api.Dot { return api.Dot{Author: author, Seq: seq} }

// drawer draws numbers, the same ones every time.
type drawer uint64

func (d *drawer) below(n int) int {
	*d = *d*6364136223846793005 + 1442695040888963407
	return int(uint64(*d)>>33) % n
}

// grant is a right one: past is what its author saw of all, and its own number of it is put right.
func grant(author byte, seq uint32, who byte, role api.Role, past ...uint32) api.Event {
	e := api.Event{Dot: dot(author, seq), Kind: api.Grant, Who: who, Role: role}
	copy(e.Past[:], past)
	e.Past[author] = seq - 1
	return e
}

func revoke(author byte, seq uint32, who byte, past ...uint32) api.Event {
	e := grant(author, seq, who, api.NoRole, past...)
	e.Kind = api.Revoke
	return e
}

func all() api.Vector {
	var v api.Vector
	for i := range v {
		v[i] = math.MaxUint32
	}
	return v
}

func book(t *testing.T, l ...api.Event) *acl.Book {
	t.Helper()
	b := acl.New()
	add(t, b, l...)
	return b
}

func add(t *testing.T, b *acl.Book, l ...api.Event) {
	t.Helper()
	for _, e := range l {
		if err := b.Add(e); err != api.OK {
			t.Fatalf("Add(%v) = %d", e, err)
		}
	}
}

func asks(t *testing.T, b *acl.Book, who byte, v api.Vector, want api.Role) {
	t.Helper()
	if got := b.Role(who, v); got != want {
		t.Errorf("Role(%d, %v) = %d instead of %d", who, v, got, want)
	}
}

func counts(t *testing.T, b *acl.Book, d api.Dot, want bool) {
	t.Helper()
	if got := b.Counts(d); got != want {
		t.Errorf("Counts(%v) = %v", d, got)
	}
}

// plainBook is the chapter's words once more: a list that is gone through for each question.
type plainBook []plainEntry

type plainEntry struct {
	e      api.Event
	counts bool
}

func plainSeen(v api.Vector, d api.Dot) bool {
	return d.Author < 8 && d.Seq > 0 && d.Seq <= v[d.Author]
}

func (p plainBook) has(d api.Dot) bool {
	return slices.ContainsFunc(p, func(x plainEntry) bool { return x.e.Dot == d })
}

func (p plainBook) counts(d api.Dot) bool {
	return slices.ContainsFunc(p, func(x plainEntry) bool { return x.e.Dot == d && x.counts })
}

func (p plainBook) last(who byte, v api.Vector) []api.Event {
	var about, last []api.Event
	for _, x := range p {
		if x.counts && x.e.Who == who && plainSeen(v, x.e.Dot) {
			about = append(about, x.e)
		}
	}
	for i, a := range about {
		ahead := false
		for j, b := range about {
			ahead = ahead || i != j && plainSeen(b.Past, a.Dot)
		}
		if !ahead {
			last = append(last, a)
		}
	}
	return last
}

func (p plainBook) role(who byte, v api.Vector) api.Role {
	if who > 7 {
		return api.NoRole
	}
	last := p.last(who, v)
	if len(last) == 0 && who == 0 {
		return api.Admin
	}
	if len(last) == 0 || slices.ContainsFunc(last, func(e api.Event) bool { return e.Kind == api.Revoke }) {
		return api.NoRole
	}
	role := api.Admin
	for _, e := range last {
		role = min(role, e.Role)
	}
	return role
}

func (p *plainBook) add(e api.Event) {
	*p = append(*p, plainEntry{e, p.role(e.Dot.Author, e.Past) == api.Admin})
}

// P1
func TestNilBook(t *testing.T) {
	var b *acl.Book
	for _, e := range []api.Event{{}, grant(0, 1, 1, api.Admin), revoke(0, 1, 1), {Dot: dot(255, 0), Kind: 255}} {
		if err := b.Add(e); err != api.ErrNil {
			t.Error(err)
		}
	}
	for _, who := range []byte{0, 1, 7, 8, 255} {
		asks(t, b, who, api.Vector{}, api.NoRole)
		asks(t, b, who, all(), api.NoRole)
	}
	counts(t, b, dot(0, 1), false)
	counts(t, b, api.Dot{}, false)
	if b.Members(all()) != [api.Authors]api.Role{} || b.Len() != 0 || b.Fork() != nil {
		t.Error("a nil book answers something")
	}
}

// P9.1: the chapter's example
func TestNothingWritten(t *testing.T) {
	b := acl.New()
	if b == nil {
		t.Fatal("nil")
	}
	check := func(b *acl.Book) {
		t.Helper()
		for _, v := range []api.Vector{{}, {5, 5}, all()} {
			if m := b.Members(v); m != [api.Authors]api.Role{api.Admin} {
				t.Error(m)
			}
			asks(t, b, 0, v, api.Admin)
			for _, who := range []byte{1, 2, 7, 8, 255} {
				asks(t, b, who, v, api.NoRole)
			}
		}
		if b.Len() != 0 || b.Counts(dot(0, 1)) || b.Counts(api.Dot{}) {
			t.Error("an empty book has something")
		}
	}
	check(b)
	check(b.Fork())
	add(t, b, grant(0, 1, 1, api.Writer))
	check(acl.New())
}

// P9.1: one that is written in
func TestWrittenIn(t *testing.T) {
	for _, role := range []api.Role{api.Reader, api.Writer, api.Admin} {
		for who := range byte(api.Authors) {
			b := book(t, grant(0, 1, who, role))
			var want [api.Authors]api.Role
			want[0] = api.Admin
			want[who] = role
			if m := b.Members(api.Vector{1}); m != want {
				t.Errorf("%v instead of %v", m, want)
			}
			counts(t, b, dot(0, 1), true)
			if b.Len() != 1 {
				t.Error(b.Len())
			}
		}
	}
	for who := range byte(api.Authors) {
		want := [api.Authors]api.Role{api.Admin}
		want[who] = api.NoRole
		if m := book(t, revoke(0, 1, who)).Members(api.Vector{1}); m != want {
			t.Errorf("%v instead of %v", m, want)
		}
	}
}

// wrong are events with the dot of e, a grant, that are not right, or are neither grants nor revokes.
func wrong(e api.Event) []api.Event {
	var l []api.Event
	for _, change := range []func(*api.Event){
		func(e *api.Event) { e.Kind = api.NoKind },
		func(e *api.Event) { e.Kind = 5 },
		func(e *api.Event) { e.Kind = 255 },
		func(e *api.Event) { e.Who = 8 },
		func(e *api.Event) { e.Who = 255 },
		func(e *api.Event) { e.Role = api.NoRole },
		func(e *api.Event) { e.Role = api.Admin + 1 },
		func(e *api.Event) { e.Role = 255 },
		func(e *api.Event) { e.Kind = api.Revoke },
		func(e *api.Event) { e.Kind, e.Role, e.Who = api.Revoke, api.NoRole, 8 },
		func(e *api.Event) { e.Parent = dot(0, 1) },
		func(e *api.Event) { e.Right = true },
		func(e *api.Event) { e.Char = 'a' },
		func(e *api.Event) { e.Past[e.Dot.Author]++ },
		func(e *api.Event) { e.Past[7-e.Dot.Author] = api.MaxSeq + 1 },
		func(e *api.Event) { e.Kind, e.Right, e.Char, e.Who, e.Role = api.Insert, true, 'a', 0, 0 },
		func(e *api.Event) {
			e.Kind, e.Parent, e.Past[7-e.Dot.Author], e.Who, e.Role = api.Delete, dot(7-e.Dot.Author, 1), 1, 0, 0
		},
	} {
		e := e
		change(&e)
		l = append(l, e)
	}
	return l
}

// refused asks for an error of an Add, and that nothing has changed.
func refused(t *testing.T, b *acl.Book, e api.Event, want api.Errno) {
	t.Helper()
	members, n, there := b.Members(all()), b.Len(), b.Counts(e.Dot)
	if err := b.Add(e); err != want {
		t.Errorf("Add(%v) = %d instead of %d", e, err, want)
	}
	if b.Members(all()) != members || b.Len() != n || b.Counts(e.Dot) != there {
		t.Errorf("Add(%v), refused, has changed the book", e)
	}
}

// P9.1, P2: the errors, one ahead of the other, up to MaxLog events and one more
func TestAddErrors(t *testing.T) {
	b := book(t, grant(0, 1, 1, api.Writer), grant(3, 1, 2, api.Admin))
	counts(t, b, dot(3, 1), false)
	check := func() {
		t.Helper()
		for _, e := range []api.Event{grant(0, 1, 1, api.Writer), grant(3, 1, 2, api.Admin), grant(7, 1, 3, api.Reader), grant(2, 700, 3, api.Reader)} {
			for _, e := range wrong(e) {
				refused(t, b, e, api.ErrForm)
			}
		}
		refused(t, b, api.Event{}, api.ErrForm)
		for _, d := range []api.Dot{dot(0, 0), dot(8, 1), dot(255, 1)} {
			refused(t, b, api.Event{Dot: d, Kind: api.Revoke}, api.ErrForm)
		}
		refused(t, b, grant(1, api.MaxSeq+1, 1, api.Reader), api.ErrForm)
		// The same once more, and unlike ones; those that count, and those that don't.
		for _, d := range []api.Dot{dot(0, 1), dot(3, 1)} {
			refused(t, b, grant(d.Author, d.Seq, 1, api.Writer), api.ErrKnown)
			refused(t, b, grant(d.Author, d.Seq, 2, api.Admin), api.ErrKnown)
			refused(t, b, revoke(d.Author, d.Seq, 0), api.ErrKnown)
		}
	}
	check()
	// Those that don't count take room, too.
	for i := uint32(2); i < api.MaxLog; i++ {
		add(t, b, grant(byte(i%2), i, byte(i%5), api.Reader))
		if b.Len() != int(i)+1 {
			t.Fatal(b.Len())
		}
	}
	check()
	for _, e := range []api.Event{grant(7, 1, 3, api.Reader), revoke(0, 600, 0), grant(0, api.MaxSeq, 3, api.Admin)} {
		refused(t, b, e, api.ErrFull)
		refused(t, b.Fork(), e, api.ErrFull)
	}
	if b.Len() != api.MaxLog {
		t.Error(b.Len())
	}
}

// P9.1: MaxSeq is a number that may be
func TestGreatestSeq(t *testing.T) {
	b := book(t, grant(0, api.MaxSeq, 1, api.Writer, 0, api.MaxSeq))
	asks(t, b, 1, api.Vector{api.MaxSeq}, api.Writer)
	asks(t, b, 1, api.Vector{api.MaxSeq - 1, api.MaxSeq}, api.NoRole)
	asks(t, b, 1, all(), api.Writer)
}

// P9.1: events whose author was no Admin by their Past
func TestCounts(t *testing.T) {
	b := book(t,
		grant(1, 1, 1, api.Admin),     // of nobody
		grant(1, 2, 1, api.Admin),     // the first one doesn't count
		grant(0, 1, 1, api.Reader),    // 0 is Admin at first
		grant(1, 3, 2, api.Writer, 1), // of a Reader
		grant(0, 2, 1, api.Writer),
		revoke(1, 4, 0, 2), // of a Writer
		grant(0, 3, 1, api.Admin),
		grant(1, 5, 3, api.Writer, 2), // is Admin, and has not seen it
		grant(1, 6, 4, api.Writer, 3), // has seen it
		revoke(0, 4, 1),
		grant(1, 7, 5, api.Writer, 3), // has not seen that its role was taken away
		grant(1, 8, 6, api.Writer, 4), // has seen it
		grant(7, 1, 7, api.Admin, 4, 8),
	)
	want := map[api.Dot]bool{dot(0, 1): true, dot(0, 2): true, dot(0, 3): true, dot(0, 4): true, dot(1, 6): true, dot(1, 7): true}
	for a := range byte(10) {
		for n := range uint32(10) {
			counts(t, b, dot(a, n), want[dot(a, n)])
		}
	}
	counts(t, b, dot(255, 1), false)
	counts(t, b, dot(0, math.MaxUint32), false)
	if m := b.Members(all()); m != [api.Authors]api.Role{0: api.Admin, 4: api.Writer, 5: api.Writer} {
		t.Error(m)
	}
	if b.Len() != 13 {
		t.Error(b.Len())
	}
}

// P9.1: whether one counts is settled when it is written in
func TestCountsIsSettled(t *testing.T) {
	given, done := grant(0, 1, 1, api.Admin), grant(1, 1, 2, api.Writer, 1)
	b := book(t, done, given)
	counts(t, b, done.Dot, false)
	counts(t, b, given.Dot, true)
	asks(t, b, 2, api.Vector{1, 1}, api.NoRole)
	// And it counts on, when what comes later would have it otherwise.
	late := revoke(0, 2, 1)
	b = book(t, given, grant(1, 1, 2, api.Writer, 2), late)
	counts(t, b, dot(1, 1), true)
	asks(t, b, 2, api.Vector{2, 1}, api.Writer)
	asks(t, b, 1, api.Vector{2, 1}, api.NoRole)
}

// P9.1: a vector that saw none, some, all of the events
func TestRoleByVector(t *testing.T) {
	b := book(t, grant(0, 1, 1, api.Reader), grant(0, 2, 1, api.Admin), grant(1, 1, 2, api.Writer, 2), revoke(0, 3, 1, 0, 1), grant(0, 4, 1, api.Writer, 0, 1))
	for _, x := range []struct {
		v    api.Vector
		want [api.Authors]api.Role
	}{
		{api.Vector{}, [api.Authors]api.Role{api.Admin}},
		{api.Vector{0, 0, 9, 9, 9, 9, 9, 9}, [api.Authors]api.Role{api.Admin}},
		{api.Vector{1}, [api.Authors]api.Role{api.Admin, api.Reader}},
		{api.Vector{2}, [api.Authors]api.Role{api.Admin, api.Admin}},
		{api.Vector{0, 1}, [api.Authors]api.Role{api.Admin, 0, api.Writer}},
		{api.Vector{1, 1}, [api.Authors]api.Role{api.Admin, api.Reader, api.Writer}},
		{api.Vector{2, 1}, [api.Authors]api.Role{api.Admin, api.Admin, api.Writer}},
		{api.Vector{3}, [api.Authors]api.Role{api.Admin}},
		{api.Vector{3, 1}, [api.Authors]api.Role{api.Admin, 0, api.Writer}},
		{api.Vector{4, 1}, [api.Authors]api.Role{api.Admin, api.Writer, api.Writer}},
		{api.Vector{5, 2, 1}, [api.Authors]api.Role{api.Admin, api.Writer, api.Writer}},
		{all(), [api.Authors]api.Role{api.Admin, api.Writer, api.Writer}},
	} {
		if got := b.Members(x.v); got != x.want {
			t.Errorf("Members(%v) = %v instead of %v", x.v, got, x.want)
		}
		for who, want := range x.want {
			asks(t, b, byte(who), x.v, want)
		}
	}
}

// P9.1: who of 7, 8
func TestWho(t *testing.T) {
	b := book(t, grant(0, 1, 7, api.Admin), grant(7, 1, 6, api.Writer, 1), grant(7, 2, 0, api.Reader, 1))
	v := api.Vector{0: 1, 7: 2}
	asks(t, b, 7, v, api.Admin)
	asks(t, b, 6, v, api.Writer)
	asks(t, b, 0, v, api.Reader)
	for _, who := range []byte{8, 9, 15, 16, 128, 255} {
		asks(t, b, who, v, api.NoRole)
		asks(t, b, who, all(), api.NoRole)
	}
}

// threeAdmins makes 0, 1 and 2 Admins; what they tell behind it has seen 2 of 0.
func threeAdmins() []api.Event {
	return []api.Event{grant(0, 1, 1, api.Admin), grant(0, 2, 2, api.Admin)}
}

// P9.1: the last ones, one that is causal.Before another one and one that is not, and which of them decides
func TestLastOnes(t *testing.T) {
	for _, x := range []struct {
		name string
		l    []api.Event
		want api.Role
	}{
		{"one behind the other, less", []api.Event{grant(0, 3, 5, api.Admin), grant(1, 1, 5, api.Reader, 3)}, api.Reader},
		{"one behind the other, more", []api.Event{grant(0, 3, 5, api.Reader), grant(1, 1, 5, api.Admin, 3)}, api.Admin},
		{"of one author", []api.Event{grant(0, 3, 5, api.Reader), grant(0, 4, 5, api.Writer)}, api.Writer},
		{"a revoke behind a grant", []api.Event{grant(0, 3, 5, api.Admin), revoke(1, 1, 5, 3)}, api.NoRole},
		{"a grant behind a revoke", []api.Event{revoke(0, 3, 5), grant(1, 1, 5, api.Reader, 3)}, api.Reader},
		{"two at once", []api.Event{grant(0, 3, 5, api.Admin), grant(1, 1, 5, api.Reader, 2)}, api.Reader},
		{"two at once, the other way", []api.Event{grant(0, 3, 5, api.Reader), grant(1, 1, 5, api.Admin, 2)}, api.Reader},
		{"two alike at once", []api.Event{grant(0, 3, 5, api.Writer), grant(1, 1, 5, api.Writer, 2)}, api.Writer},
		{"three at once", []api.Event{grant(0, 3, 5, api.Admin), grant(1, 1, 5, api.Writer, 2), grant(2, 1, 5, api.Reader, 2)}, api.Reader},
		{"a revoke at once", []api.Event{grant(0, 3, 5, api.Admin), revoke(1, 1, 5, 2)}, api.NoRole},
		{"a revoke at once, the other way", []api.Event{revoke(0, 3, 5), grant(1, 1, 5, api.Admin, 2)}, api.NoRole},
		{"a revoke and two grants", []api.Event{grant(0, 3, 5, api.Admin), revoke(1, 1, 5, 2), grant(2, 1, 5, api.Reader, 2)}, api.NoRole},
		{"two, and one behind both", []api.Event{revoke(0, 3, 5), grant(1, 1, 5, api.Reader, 2), grant(2, 1, 5, api.Writer, 3, 1)}, api.Writer},
		{"two, and one behind the revoke alone", []api.Event{revoke(0, 3, 5), grant(1, 1, 5, api.Writer, 2), grant(2, 1, 5, api.Admin, 3)}, api.Writer},
		{"two, and one behind the grant alone", []api.Event{revoke(0, 3, 5), grant(1, 1, 5, api.Reader, 2), grant(2, 1, 5, api.Writer, 2, 1)}, api.NoRole},
		{"one behind the other by a third one", []api.Event{revoke(0, 3, 5), grant(1, 1, 6, api.Reader, 3), grant(2, 1, 5, api.Writer, 2, 1)}, api.NoRole},
		{"one that does not count saw it", []api.Event{revoke(0, 3, 5), grant(3, 1, 5, api.Admin, 3)}, api.NoRole},
		{"one about another member saw it", []api.Event{grant(0, 3, 5, api.Reader), grant(1, 1, 6, api.Admin, 3), grant(2, 1, 5, api.Admin, 2)}, api.Reader},
	} {
		b := book(t, append(threeAdmins(), x.l...)...)
		if got := b.Role(5, all()); got != x.want {
			t.Errorf("%s: %d instead of %d", x.name, got, x.want)
		}
		if got := b.Members(all())[5]; got != x.want {
			t.Errorf("%s: Members has %d instead of %d", x.name, got, x.want)
		}
	}
}

// P9.1: of those that a vector saw alone are there last ones
func TestLastOnesByVector(t *testing.T) {
	b := book(t, append(threeAdmins(), revoke(0, 3, 5), grant(1, 1, 5, api.Reader, 2), grant(2, 1, 5, api.Writer, 3, 1))...)
	asks(t, b, 5, api.Vector{2}, api.NoRole)
	asks(t, b, 5, api.Vector{2, 1}, api.Reader)
	asks(t, b, 5, api.Vector{3, 1}, api.NoRole)
	asks(t, b, 5, api.Vector{0, 1}, api.Reader)
	// A vector may have seen one and not what that one saw.
	asks(t, b, 5, api.Vector{0, 0, 1}, api.Writer)
	asks(t, b, 5, api.Vector{3, 1, 1}, api.Writer)
}

// P9.1: of two that saw each other neither is a last one, so that there is none
func TestEachSawTheOther(t *testing.T) {
	b := book(t, grant(0, 1, 1, api.Admin, 0, 5), grant(1, 1, 1, api.Writer, 1))
	counts(t, b, dot(0, 1), true)
	counts(t, b, dot(1, 1), true)
	asks(t, b, 1, api.Vector{1}, api.Admin)
	asks(t, b, 1, api.Vector{0, 1}, api.Writer)
	asks(t, b, 1, api.Vector{1, 1}, api.NoRole)
	b = book(t, grant(0, 1, 1, api.Admin), revoke(0, 2, 0, 0, 5), revoke(1, 1, 0, 2))
	asks(t, b, 0, api.Vector{2}, api.NoRole)
	asks(t, b, 0, api.Vector{2, 1}, api.Admin)
}

// near is a right event about what was written in; its past may be of any kind.
func (d *drawer) near(next *api.Vector) api.Event {
	a := byte(d.below(4))
	seq := next[a] + 1
	if d.below(6) == 0 {
		seq += uint32(d.below(3))
	}
	e := grant(a, seq, byte(d.below(4)), api.Role(1+d.below(3)))
	if d.below(3) == 0 {
		e.Kind, e.Role = api.Revoke, api.NoRole
	}
	for i := range byte(4) {
		if i != a {
			e.Past[i] = uint32(max(0, int(next[i])-d.below(3)))
			if d.below(10) == 0 {
				e.Past[i] += 4
			}
		}
	}
	next[a] = seq
	return e
}

func (d *drawer) vector(n int) api.Vector {
	var v api.Vector
	for i := range v {
		v[i] = uint32(d.below(n))
	}
	return v
}

// P9.1, P9.2, P6
func TestDrawn(t *testing.T) {
	taken, given := 0, 0
	for seed := range 60 {
		d := drawer(seed)
		b, again := acl.New(), acl.New()
		var p plainBook
		var next api.Vector
		for range 40 {
			e := d.near(&next)
			if p.has(e.Dot) {
				continue
			}
			vectors := []api.Vector{{}, next, all(), e.Past}
			for range 4 {
				vectors = append(vectors, d.vector(12))
			}
			ahead := make([][api.Authors]api.Role, len(vectors))
			for i, v := range vectors {
				ahead[i] = b.Members(v)
			}
			p.add(e)
			add(t, b, e)
			add(t, again, e)
			if b.Counts(e.Dot) != p.counts(e.Dot) {
				t.Fatalf("Counts(%v) is not %v", e, p.counts(e.Dot))
			}
			if b.Counts(e.Dot) {
				given++
			} else {
				taken++
			}
			for i, v := range vectors {
				got := b.Members(v)
				if !plainSeen(v, e.Dot) && got != ahead[i] {
					t.Fatalf("%v, not seen by %v, has changed its roles", e, v)
				}
				for who := range byte(10) {
					if b.Role(who, v) != p.role(who, v) || again.Role(who, v) != p.role(who, v) || who < 8 && got[who] != p.role(who, v) {
						t.Fatalf("Role(%d, %v) = %d instead of %d", who, v, b.Role(who, v), p.role(who, v))
					}
				}
			}
			if b.Len() != len(p) {
				t.Fatal(b.Len())
			}
		}
		for _, x := range p {
			counts(t, b, x.e.Dot, x.counts)
		}
	}
	if taken < 100 || given < 100 {
		t.Error("one kind was hardly drawn", taken, given)
	}
}

// P9.2: whatever comes later, and is not seen
func TestLaterChangesNothing(t *testing.T) {
	b := book(t, append(threeAdmins(), grant(1, 1, 5, api.Writer, 2))...)
	v := api.Vector{2, 1}
	want := b.Members(v)
	for _, e := range []api.Event{revoke(0, 3, 5, 0, 1), revoke(0, 4, 1), revoke(0, 5, 0), revoke(2, 1, 0, 2), grant(1, 2, 6, api.Admin), grant(2, 2, 5, api.Reader)} {
		add(t, b, e)
		if got := b.Members(v); got != want {
			t.Errorf("behind %v: %v instead of %v", e, got, want)
		}
	}
	if b.Members(all()) == want {
		t.Error("nothing has changed by what has seen all")
	}
}

// P9.3: a role that was taken away, till it is given anew by one that saw it
func TestTakenAway(t *testing.T) {
	b := book(t, append(threeAdmins(), grant(0, 3, 5, api.Admin), revoke(1, 1, 5, 3))...)
	asks(t, b, 5, api.Vector{3, 1}, api.NoRole)
	// One that counts, and did not see it.
	add(t, b, grant(2, 1, 5, api.Admin, 3))
	counts(t, b, dot(2, 1), true)
	asks(t, b, 5, api.Vector{3, 1, 1}, api.NoRole)
	// One that saw it, and does not count: it is the member's own.
	add(t, b, grant(5, 1, 5, api.Admin, 3, 1))
	counts(t, b, dot(5, 1), false)
	asks(t, b, 5, api.Vector{3, 1, 1, 0, 0, 1}, api.NoRole)
	// One that counts, and saw it.
	add(t, b, grant(0, 4, 5, api.Reader, 0, 1))
	asks(t, b, 5, api.Vector{4, 1}, api.Reader)
	asks(t, b, 5, api.Vector{4, 1, 1, 0, 0, 1}, api.Reader)
	asks(t, b, 5, api.Vector{3, 1, 1, 0, 0, 1}, api.NoRole)
	// A revoke that does not count takes nothing away.
	add(t, b, revoke(3, 1, 5, 4, 1))
	asks(t, b, 5, api.Vector{4, 1, 1, 1}, api.Reader)
}

// P9.3: member 0, too
func TestTakenAwayFromTheFirst(t *testing.T) {
	b := book(t, grant(0, 1, 1, api.Admin), revoke(1, 1, 0, 1))
	asks(t, b, 0, api.Vector{1, 1}, api.NoRole)
	asks(t, b, 0, api.Vector{1}, api.Admin)
	add(t, b, grant(0, 2, 0, api.Admin, 0, 1))
	counts(t, b, dot(0, 2), false)
	asks(t, b, 0, api.Vector{2, 1}, api.NoRole)
	add(t, b, grant(1, 2, 0, api.Writer, 1))
	asks(t, b, 0, api.Vector{2, 2}, api.Writer)
	// It may give up its role by itself; then nobody gives any more.
	b = book(t, revoke(0, 1, 0), grant(0, 2, 1, api.Admin))
	counts(t, b, dot(0, 1), true)
	counts(t, b, dot(0, 2), false)
	if m := b.Members(all()); m != [api.Authors]api.Role{} {
		t.Error(m)
	}
}

// everyOrder calls f with the list in each order.
func everyOrder(l []api.Event, f func([]api.Event)) {
	var turn func(int)
	turn = func(n int) {
		if n == len(l) {
			f(l)
			return
		}
		for i := n; i < len(l); i++ {
			l[n], l[i] = l[i], l[n]
			turn(n + 1)
			l[n], l[i] = l[i], l[n]
		}
	}
	turn(0)
}

// P9.4: those that did not see each other, in every order
func TestEveryOrder(t *testing.T) {
	atOnce := []api.Event{grant(0, 3, 5, api.Admin), revoke(1, 1, 5, 2), grant(2, 1, 5, api.Reader, 2), revoke(3, 1, 0, 2), grant(4, 1, 6, api.Admin)}
	want := book(t, append(threeAdmins(), atOnce...)...)
	vectors := []api.Vector{{}, {2}, {3}, {3, 1}, {3, 0, 1}, {2, 1, 1, 1}, {3, 1, 1, 1, 1}, all()}
	everyOrder(slices.Clone(atOnce), func(l []api.Event) {
		b := book(t, append(threeAdmins(), l...)...)
		for _, v := range vectors {
			if b.Members(v) != want.Members(v) {
				t.Fatalf("%v: %v instead of %v", v, b.Members(v), want.Members(v))
			}
		}
		for _, e := range l {
			if b.Counts(e.Dot) != want.Counts(e.Dot) {
				t.Fatal(e)
			}
		}
	})
}

// P9.4: two that stand one behind the other, and did not see each other, are written in the other way round
func TestTwoInTheOtherOrder(t *testing.T) {
	turned := 0
	for seed := range 60 {
		d := drawer(seed)
		var next api.Vector
		var l []api.Event
		for range 14 {
			l = append(l, d.near(&next))
		}
		one := book(t, l...)
		for i := range len(l) - 1 {
			if plainSeen(l[i].Past, l[i+1].Dot) || plainSeen(l[i+1].Past, l[i].Dot) {
				continue
			}
			turned++
			other := slices.Clone(l)
			other[i], other[i+1] = other[i+1], other[i]
			two := book(t, other...)
			for range 10 {
				if v := d.vector(8); one.Members(v) != two.Members(v) {
					t.Fatalf("%v: %v instead of %v", v, two.Members(v), one.Members(v))
				}
			}
			for _, e := range l {
				if one.Counts(e.Dot) != two.Counts(e.Dot) {
					t.Fatal(e)
				}
			}
		}
	}
	if turned < 100 {
		t.Error(turned)
	}
}

// P9.5: two admins that take each other's role away at once, and one that takes another one's
func TestEachTakesTheOthers(t *testing.T) {
	one, two := revoke(1, 1, 2, 2), revoke(2, 1, 1, 2)
	everyOrder([]api.Event{one, two}, func(l []api.Event) {
		b := book(t, append(threeAdmins(), l...)...)
		counts(t, b, one.Dot, true)
		counts(t, b, two.Dot, true)
		if m := b.Members(api.Vector{2, 1, 1}); m != [api.Authors]api.Role{api.Admin} {
			t.Error(m)
		}
		asks(t, b, 2, api.Vector{2, 1}, api.NoRole)
		asks(t, b, 1, api.Vector{2, 1}, api.Admin)
		asks(t, b, 1, api.Vector{2, 0, 1}, api.NoRole)
		asks(t, b, 2, api.Vector{2, 0, 1}, api.Admin)
		// What they do behind it has no weight any more.
		add(t, b, grant(1, 2, 1, api.Admin, 2, 0, 1), grant(2, 2, 2, api.Admin, 2, 1))
		counts(t, b, dot(1, 2), false)
		counts(t, b, dot(2, 2), false)
		asks(t, b, 1, all(), api.NoRole)
		asks(t, b, 2, all(), api.NoRole)
	})
	// One takes the other one's, which at once gives somebody a role: that counts.
	b := book(t, append(threeAdmins(), one, grant(2, 1, 5, api.Writer, 2))...)
	if m := b.Members(all()); m != [api.Authors]api.Role{0: api.Admin, 1: api.Admin, 5: api.Writer} {
		t.Error(m)
	}
	// All of them at once: nobody is left.
	b = book(t, append(threeAdmins(), revoke(0, 3, 1), revoke(1, 1, 2, 2), revoke(2, 1, 0, 2))...)
	if m := b.Members(all()); m != [api.Authors]api.Role{} {
		t.Error(m)
	}
}

// P3
func TestBookAnswersAreTheCallers(t *testing.T) {
	b := book(t, threeAdmins()...)
	m := b.Members(all())
	m[0], m[1] = api.NoRole, api.Reader
	if b.Members(all()) != [api.Authors]api.Role{api.Admin, api.Admin, api.Admin} {
		t.Error("the answer lies in what is kept")
	}
}

// P4
func TestFork(t *testing.T) {
	b := book(t, threeAdmins()...)
	f := b.Fork()
	if f == b {
		t.Fatal("the same one")
	}
	if f.Len() != 2 || f.Members(all()) != b.Members(all()) || !f.Counts(dot(0, 1)) {
		t.Error(f.Members(all()))
	}
	add(t, f, revoke(0, 3, 1))
	if b.Len() != 2 || b.Counts(dot(0, 3)) || b.Role(1, all()) != api.Admin || f.Role(1, all()) != api.NoRole {
		t.Error("what became of the fork has changed the book")
	}
	add(t, b, grant(0, 3, 5, api.Writer), grant(1, 1, 6, api.Reader, 2))
	if f.Len() != 3 || f.Counts(dot(1, 1)) || f.Role(5, all()) != api.NoRole || b.Role(5, all()) != api.Writer {
		t.Error("what became of the book has changed the fork")
	}
	refused(t, f, grant(0, 1, 1, api.Admin), api.ErrKnown)
	add(t, acl.New().Fork(), grant(0, 1, 1, api.Admin))
}
