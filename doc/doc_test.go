package doc_test

import (
	"math"
	"slices"
	"testing"

	"escritoire/acl"
	"escritoire/api"
	"escritoire/causal"
	"escritoire/doc"
	"escritoire/fugue"
)

func dot(author byte, seq uint32) api.Dot { return api.Dot{Author: author, Seq: seq} }

// drawer draws numbers, the same ones every time.
type drawer uint64

func (d *drawer) below(n int) int {
	*d = *d*6364136223846793005 + 1442695040888963407
	return int(uint64(*d)>>33) % n
}

// told gives an event its dot and its past: what its author saw of all, and its own number of it is put right.
func told(e api.Event, author byte, seq uint32, past ...uint32) api.Event {
	e.Dot = dot(author, seq)
	copy(e.Past[:], past)
	e.Past[author] = seq - 1
	return e
}

func insert(parent api.Dot, right bool, c byte) api.Event {
	return api.Event{Kind: api.Insert, Parent: parent, Right: right, Char: c}
}

// first stands at the root's right.
func first(c byte) api.Event { return insert(api.Dot{}, true, c) }

func erase(node api.Dot) api.Event { return api.Event{Kind: api.Delete, Parent: node} }

func grant(who byte, role api.Role) api.Event {
	return api.Event{Kind: api.Grant, Who: who, Role: role}
}

func revoke(who byte) api.Event { return api.Event{Kind: api.Revoke, Who: who} }

func apply(t *testing.T, d *doc.Doc, l ...api.Event) {
	t.Helper()
	for _, e := range l {
		if err := d.Apply(e); err != api.OK {
			t.Fatalf("Apply(%v) = %d", e, err)
		}
	}
}

func fresh(t *testing.T, l ...api.Event) *doc.Doc {
	t.Helper()
	d := doc.New()
	apply(t, d, l...)
	return d
}

// do applies what Write, Erase, Give or Take told.
func do(t *testing.T, d *doc.Doc) func(api.Event, api.Errno) api.Event {
	return func(e api.Event, err api.Errno) api.Event {
		t.Helper()
		if err != api.OK {
			t.Fatalf("error %d", err)
		}
		apply(t, d, e)
		return e
	}
}

// state is all that a document tells of itself.
type state struct {
	text    string
	members [api.Authors]api.Role
	vector  api.Vector
	events  []api.Event
	force   []bool
}

func stateOf(d *doc.Doc) state {
	s := state{text: string(d.Text()), members: d.Members(), vector: d.Vector(), events: d.Events()}
	for _, e := range s.events {
		s.force = append(s.force, d.Force(e.Dot))
	}
	return s
}

func (s state) same(o state) bool {
	return s.text == o.text && s.members == o.members && s.vector == o.vector && slices.Equal(s.events, o.events) && slices.Equal(s.force, o.force)
}

func asksText(t *testing.T, d *doc.Doc, want string) {
	t.Helper()
	if got := string(d.Text()); got != want {
		t.Errorf("text %q instead of %q", got, want)
	}
}

func asksForce(t *testing.T, d *doc.Doc, x api.Dot, want bool) {
	t.Helper()
	if got := d.Force(x); got != want {
		t.Errorf("Force(%v) = %v", x, got)
	}
}

// plainDoc is the chapter's words once more: what was applied is gone through anew for each question, with the layers ahead.
type plainDoc struct {
	events []api.Event
	force  map[api.Dot]bool
}

func plain(l []api.Event) plainDoc {
	p := plainDoc{force: map[api.Dot]bool{}}
	for _, e := range l {
		p.force[e.Dot] = p.hasForce(e)
		p.events = append(p.events, e)
	}
	return p
}

func (p plainDoc) book() *acl.Book {
	b := acl.New()
	for _, e := range p.events {
		if p.force[e.Dot] && e.Kind >= api.Grant {
			b.Add(e)
		}
	}
	return b
}

func (p plainDoc) tree() *fugue.Tree {
	x := fugue.New()
	for _, e := range p.events {
		switch {
		case p.force[e.Dot] && e.Kind == api.Insert:
			x.Insert(e.Dot, e.Parent, e.Right, e.Char)
		case p.force[e.Dot] && e.Kind == api.Delete:
			x.Delete(e.Parent)
		}
	}
	return x
}

func (p plainDoc) hasForce(e api.Event) bool {
	role := p.book().Role(e.Dot.Author, e.Past)
	switch e.Kind {
	case api.Insert:
		return (role == api.Writer || role == api.Admin) && (e.Parent == api.Dot{} || p.tree().Has(e.Parent))
	case api.Delete:
		return (role == api.Writer || role == api.Admin) && p.tree().Has(e.Parent)
	}
	return role == api.Admin
}

func (p plainDoc) vector() api.Vector {
	var v api.Vector
	for _, e := range p.events {
		v[e.Dot.Author]++
	}
	return v
}

func (p plainDoc) state() state {
	s := state{string(p.tree().Text()), p.book().Members(p.vector()), p.vector(), p.events, nil}
	for _, e := range p.events {
		s.force = append(s.force, p.force[e.Dot])
	}
	return s
}

// P1
func TestNilDoc(t *testing.T) {
	var d *doc.Doc
	for _, e := range []api.Event{{}, told(first('a'), 0, 1), told(first('a'), 0, 2), {Dot: dot(255, 0), Kind: 255}} {
		if err := d.Apply(e); err != api.ErrNil {
			t.Error(err)
		}
	}
	for _, author := range []byte{0, 7, 8, 255} {
		for _, i := range []int{math.MinInt, -1, 0, 1, math.MaxInt} {
			for _, c := range []byte{0, 'a', 128} {
				if e, err := d.Write(author, i, c); e != (api.Event{}) || err != api.ErrNil {
					t.Error(e, err)
				}
			}
			if e, err := d.Erase(author, i); e != (api.Event{}) || err != api.ErrNil {
				t.Error(e, err)
			}
		}
		for _, who := range []byte{0, 7, 8, 255} {
			for _, role := range []api.Role{api.NoRole, api.Writer, 4} {
				if e, err := d.Give(author, who, role); e != (api.Event{}) || err != api.ErrNil {
					t.Error(e, err)
				}
			}
			if e, err := d.Take(author, who); e != (api.Event{}) || err != api.ErrNil {
				t.Error(e, err)
			}
		}
	}
	if d.Force(dot(0, 1)) || d.Force(api.Dot{}) || len(d.Text()) != 0 || d.Members() != [api.Authors]api.Role{} || d.Vector() != (api.Vector{}) || len(d.Events()) != 0 || d.Fork() != nil {
		t.Error("a nil document answers something")
	}
}

// P10.1
func TestNewDoc(t *testing.T) {
	d := doc.New()
	if d == nil {
		t.Fatal("nil")
	}
	empty := state{members: [api.Authors]api.Role{api.Admin}}
	if !stateOf(d).same(empty) || !stateOf(d.Fork()).same(empty) {
		t.Error(stateOf(d))
	}
	asksForce(t, d, api.Dot{}, false)
	asksForce(t, d, dot(0, 1), false)
	apply(t, d, told(first('a'), 0, 1))
	if !stateOf(doc.New()).same(empty) {
		t.Error("documents share something")
	}
}

// P10.1, P10.2: the chapter's example
func TestExample(t *testing.T) {
	d := doc.New()
	e, err := d.Write(0, 0, 'a')
	if err != api.OK || e != told(first('a'), 0, 1) {
		t.Fatal(e, err)
	}
	asksText(t, d, "")
	apply(t, d, e)
	asksText(t, d, "a")
	asksForce(t, d, dot(0, 1), true)
	if d.Vector() != (api.Vector{1}) || !slices.Equal(d.Events(), []api.Event{e}) {
		t.Error(d.Vector(), d.Events())
	}
}

// DOC.md's first example: two write at 0 at once
func TestBothAtOnce(t *testing.T) {
	a := fresh(t, told(grant(1, api.Writer), 0, 1))
	b := a.Fork()
	x := do(t, a)(a.Write(0, 0, 'a'))
	y := do(t, b)(b.Write(1, 0, 'b'))
	apply(t, a, y)
	apply(t, b, x)
	asksText(t, a, "ab")
	asksText(t, b, "ab")
}

// P10.1: what an event of each kind does
func TestApply(t *testing.T) {
	d := doc.New()
	l := []api.Event{
		told(first('b'), 0, 1),
		told(insert(dot(0, 1), false, 'a'), 0, 2),
		told(insert(dot(0, 1), true, 'c'), 0, 3),
		told(grant(1, api.Writer), 0, 4),
		told(insert(dot(0, 3), true, 'd'), 1, 1, 4),
		told(erase(dot(0, 1)), 1, 2, 4),
		told(revoke(1), 0, 5, 0, 2),
	}
	writer := [api.Authors]api.Role{api.Admin, api.Writer}
	admin := [api.Authors]api.Role{api.Admin}
	for i, x := range []struct {
		text    string
		members [api.Authors]api.Role
		vector  api.Vector
	}{
		{"b", admin, api.Vector{1}},
		{"ab", admin, api.Vector{2}},
		{"abc", admin, api.Vector{3}},
		{"abc", writer, api.Vector{4}},
		{"abcd", writer, api.Vector{4, 1}},
		{"acd", writer, api.Vector{4, 2}},
		{"acd", admin, api.Vector{5, 2}},
	} {
		asksForce(t, d, l[i].Dot, false)
		apply(t, d, l[i])
		asksForce(t, d, l[i].Dot, true)
		asksText(t, d, x.text)
		if d.Members() != x.members || d.Vector() != x.vector || !slices.Equal(d.Events(), l[:i+1]) {
			t.Error(i, d.Members(), d.Vector(), d.Events())
		}
	}
	for _, x := range []api.Dot{{}, dot(0, 0), dot(0, 6), dot(1, 0), dot(1, 3), dot(2, 1), dot(8, 1), dot(255, 1), dot(0, math.MaxUint32)} {
		asksForce(t, d, x, false)
	}
}

// refused asks for an error of an Apply, and that nothing has changed.
func refused(t *testing.T, d *doc.Doc, e api.Event, want api.Errno) {
	t.Helper()
	ahead, force := stateOf(d), d.Force(e.Dot)
	if err := d.Apply(e); err != want {
		t.Errorf("Apply(%v) = %d instead of %d", e, err, want)
	}
	if !stateOf(d).same(ahead) || d.Force(e.Dot) != force {
		t.Errorf("Apply(%v), refused, has changed the document", e)
	}
}

// wrong are events with the dot of e that are not right.
func wrong(e api.Event) []api.Event {
	var l []api.Event
	for _, change := range []func(*api.Event){
		func(e *api.Event) { e.Kind = api.NoKind },
		func(e *api.Event) { e.Kind = 5 },
		func(e *api.Event) { e.Kind = 255 },
		func(e *api.Event) { e.Past[e.Dot.Author]++ },
		func(e *api.Event) { e.Past[7-e.Dot.Author] = api.MaxSeq + 1 },
		func(e *api.Event) { e.Char = 128 },
		func(e *api.Event) { e.Who, e.Role = 8, 4 },
		func(e *api.Event) { e.Parent = e.Dot },
	} {
		x := e
		change(&x)
		l = append(l, x)
	}
	return l
}

// P10.1, P2: the errors of Apply, one ahead of the other
func TestApplyErrors(t *testing.T) {
	d := fresh(t, told(first('a'), 0, 1), told(first('b'), 1, 1), told(grant(2, api.Reader), 0, 2, 0, 1))
	asksForce(t, d, dot(1, 1), false)
	next := func() []api.Event { return []api.Event{told(first('x'), 7, 1), told(revoke(0), 1, 2, 1)} }
	check := func() {
		t.Helper()
		gaps := []api.Event{
			told(first('x'), 7, 2),    // not the next one
			told(first('x'), 1, 9, 1), // nor this
			told(first('x'), 7, api.MaxSeq),
			told(first('x'), 7, 1, 600), // saw what was not applied
			told(revoke(1), 1, 2, 1, 1, 0, 1),
		}
		known := []api.Event{
			told(first('a'), 0, 1), // the same one
			told(first('z'), 0, 1), // unlike ones
			told(revoke(0), 0, 2),
			told(grant(3, api.Admin), 0, 2),
			told(first('b'), 1, 1),            // one without force
			told(first('z'), 1, 1, 600, 0, 9), // one that saw what was not applied
		}
		for _, e := range slices.Concat(gaps, known, next()) {
			for _, e := range wrong(e) {
				refused(t, d, e, api.ErrForm)
			}
		}
		refused(t, d, api.Event{}, api.ErrForm)
		refused(t, d, api.Event{Dot: dot(8, 1), Kind: api.Revoke}, api.ErrForm)
		refused(t, d, told(first('x'), 7, api.MaxSeq+1), api.ErrForm)
		for _, e := range known {
			refused(t, d, e, api.ErrKnown)
		}
		for _, e := range gaps {
			refused(t, d, e, api.ErrGap)
		}
	}
	check()
	for _, e := range next() {
		apply(t, d.Fork(), e)
	}
	// MaxLog events, those without force among them.
	for i := uint32(3); i < api.MaxLog-10; i++ {
		apply(t, d, told(revoke(7), 0, i))
	}
	for i := range uint32(10) {
		apply(t, d, told(first('n'), 2, i+1))
	}
	check()
	if len(d.Events()) != api.MaxLog {
		t.Fatal(len(d.Events()))
	}
	for _, e := range next() {
		refused(t, d, e, api.ErrFull)
		refused(t, d.Fork(), e, api.ErrFull)
	}
}

// P10.1: MaxLog events that write, as many as a text has nodes
func TestMaxLogOfNodes(t *testing.T) {
	d := doc.New()
	want := ""
	for i := range uint32(api.MaxLog) {
		c := byte('a' + i%26)
		e := do(t, d)(d.Write(0, int(i), c))
		asksForce(t, d, e.Dot, true)
		want += string(rune(c))
	}
	asksText(t, d, want)
	refused(t, d, told(first('x'), 0, api.MaxLog+1), api.ErrFull)
	refused(t, d, told(revoke(1), 1, 1), api.ErrFull)
	if d.Vector() != (api.Vector{api.MaxLog}) {
		t.Error(d.Vector())
	}
}

// withRole is a document in which 1 has a role, or none, and the text is a: its vector is 2.
func withRole(t *testing.T, role api.Role) *doc.Doc {
	t.Helper()
	second := grant(1, role)
	if role == api.NoRole {
		second = revoke(1)
	}
	return fresh(t, told(first('a'), 0, 1), told(second, 0, 2))
}

// P10.1, P10.4: which role an event of each kind asks for; without force it changes nothing but the vector and the events
func TestForceByRole(t *testing.T) {
	for _, x := range []struct {
		name  string
		e     api.Event
		least api.Role
	}{
		{"insert", told(insert(dot(0, 1), true, 'b'), 1, 1, 2), api.Writer},
		{"insert at the root", told(first('b'), 1, 1, 2), api.Writer},
		{"delete", told(erase(dot(0, 1)), 1, 1, 2), api.Writer},
		{"grant", told(grant(5, api.Reader), 1, 1, 2), api.Admin},
		{"revoke", told(revoke(0), 1, 1, 2), api.Admin},
	} {
		for role := api.NoRole; role <= api.Admin; role++ {
			d := withRole(t, role)
			ahead := stateOf(d)
			apply(t, d, x.e)
			if d.Force(x.e.Dot) != (role >= x.least) {
				t.Errorf("%s by %d: force %v", x.name, role, d.Force(x.e.Dot))
			}
			if d.Vector() != (api.Vector{2, 1}) || !slices.Equal(d.Events(), append(ahead.events, x.e)) {
				t.Errorf("%s by %d: %v", x.name, role, d.Vector())
			}
			changed := string(d.Text()) != ahead.text || d.Members() != ahead.members
			if changed != (role >= x.least) {
				t.Errorf("%s by %d: changed %v", x.name, role, changed)
			}
		}
	}
}

// P10.1: a role is that by the event's Past, not that by the vector
func TestForceByPast(t *testing.T) {
	// The grant is there, and was not seen.
	d := withRole(t, api.Admin)
	apply(t, d, told(first('b'), 1, 1), told(revoke(0), 1, 2, 1))
	asksForce(t, d, dot(1, 1), false)
	asksForce(t, d, dot(1, 2), false)
	apply(t, d, told(first('b'), 1, 3, 2))
	asksForce(t, d, dot(1, 3), true)
	// The revoke is there, and was not seen.
	apply(t, d, told(revoke(1), 0, 3))
	if d.Members() != [api.Authors]api.Role{api.Admin} {
		t.Error(d.Members())
	}
	apply(t, d, told(first('c'), 1, 4, 2), told(grant(2, api.Writer), 1, 5, 2))
	asksForce(t, d, dot(1, 4), true)
	asksForce(t, d, dot(1, 5), true)
	if d.Members() != [api.Authors]api.Role{api.Admin, 0, api.Writer} {
		t.Error(d.Members())
	}
	apply(t, d, told(first('d'), 1, 6, 3), told(grant(2, api.Admin), 1, 7, 3))
	asksForce(t, d, dot(1, 6), false)
	asksForce(t, d, dot(1, 7), false)
	asksText(t, d, "abc")
}

// P10.1: an Insert or a Delete whose Parent is no node, since its event had no force, or makes none
func TestParentIsNoNode(t *testing.T) {
	d := fresh(t,
		told(first('x'), 1, 1),                         // no force
		told(insert(dot(1, 1), true, 'a'), 0, 1, 0, 1), // under it
		told(insert(dot(1, 1), false, 'a'), 0, 2, 0, 1),
		told(insert(dot(0, 1), true, 'a'), 0, 3, 0, 1), // under one under it
		told(erase(dot(1, 1)), 0, 4, 0, 1),
		told(grant(1, api.Writer), 0, 5),
		told(insert(dot(0, 5), true, 'a'), 0, 6), // under a grant
		told(erase(dot(0, 5)), 0, 7),
		told(first('b'), 0, 8),
		told(erase(dot(0, 8)), 0, 9),
		told(insert(dot(0, 9), true, 'a'), 0, 10), // under a delete
		told(erase(dot(0, 9)), 0, 11),
		told(insert(dot(0, 8), true, 'c'), 0, 12), // under one that is deleted
	)
	for seq := range uint32(14) {
		asksForce(t, d, dot(0, seq), slices.Contains([]uint32{5, 8, 9, 12}, seq))
	}
	asksForce(t, d, dot(1, 1), false)
	asksText(t, d, "c")
	if d.Vector() != (api.Vector{12, 1}) || len(d.Events()) != 13 {
		t.Error(d.Vector())
	}
	// That a Writer sees the node as well makes none of it.
	apply(t, d, told(insert(dot(1, 1), true, 'e'), 1, 2, 5), told(first('f'), 1, 3, 5))
	asksForce(t, d, dot(1, 2), false)
	asksForce(t, d, dot(1, 3), true)
	asksText(t, d, "cf")
}

// P10.1: a Delete of a node that is deleted already
func TestDeletedTwice(t *testing.T) {
	d := fresh(t, told(first('a'), 0, 1), told(insert(dot(0, 1), true, 'b'), 0, 2), told(grant(1, api.Writer), 0, 3), told(erase(dot(0, 1)), 0, 4), told(erase(dot(0, 1)), 1, 1, 3), told(erase(dot(0, 1)), 0, 5))
	for _, x := range []api.Dot{dot(0, 4), dot(1, 1), dot(0, 5)} {
		asksForce(t, d, x, true)
	}
	asksText(t, d, "b")
}

// answered is what Write, Erase, Give or Take answers.
type answered struct {
	e   api.Event
	err api.Errno
}

func answer(e api.Event, err api.Errno) answered { return answered{e, err} }

// tells asks for what one of them answers, and that nothing has changed.
func tells(t *testing.T, d *doc.Doc, name string, ask func() (api.Event, api.Errno), want answered) {
	t.Helper()
	ahead := stateOf(d)
	if got := answer(ask()); got != want {
		t.Errorf("%s = %v instead of %v", name, got, want)
	}
	if !stateOf(d).same(ahead) {
		t.Errorf("%s has changed the document", name)
	}
}

func forbids(t *testing.T, d *doc.Doc, name string, ask func() (api.Event, api.Errno), want api.Errno) {
	t.Helper()
	tells(t, d, name, ask, answered{err: want})
}

// P10.2: the events that are told
func TestTold(t *testing.T) {
	d := fresh(t, told(first('a'), 0, 1), told(insert(dot(0, 1), true, 'b'), 0, 2), told(grant(7, api.Writer), 0, 3), told(first('n'), 3, 1), told(grant(6, api.Admin), 0, 4))
	v := api.Vector{4, 0, 0, 1}
	ev := func(author byte, e api.Event) answered {
		e.Dot, e.Past = dot(author, v[author]+1), v
		return answered{e, api.OK}
	}
	for _, author := range []byte{0, 6, 7} {
		tells(t, d, "Write at 0", func() (api.Event, api.Errno) { return d.Write(author, 0, 1) }, ev(author, insert(dot(0, 1), false, 1)))
		tells(t, d, "Write at 1", func() (api.Event, api.Errno) { return d.Write(author, 1, 'x') }, ev(author, insert(dot(0, 2), false, 'x')))
		tells(t, d, "Write at 2", func() (api.Event, api.Errno) { return d.Write(author, 2, 127) }, ev(author, insert(dot(0, 2), true, 127)))
		tells(t, d, "Erase 0", func() (api.Event, api.Errno) { return d.Erase(author, 0) }, ev(author, erase(dot(0, 1))))
		tells(t, d, "Erase 1", func() (api.Event, api.Errno) { return d.Erase(author, 1) }, ev(author, erase(dot(0, 2))))
	}
	for _, author := range []byte{0, 6} {
		for who := range byte(api.Authors) {
			for _, role := range []api.Role{api.Reader, api.Writer, api.Admin} {
				tells(t, d, "Give", func() (api.Event, api.Errno) { return d.Give(author, who, role) }, ev(author, grant(who, role)))
			}
			tells(t, d, "Take", func() (api.Event, api.Errno) { return d.Take(author, who) }, ev(author, revoke(who)))
		}
	}
	// An author that is no member yet, and has told something that had no force.
	apply(t, d, told(grant(3, api.Writer), 0, 5, 0, 0, 0, 1))
	v[0] = 5
	tells(t, d, "Write of 3", func() (api.Event, api.Errno) { return d.Write(3, 2, 'y') }, ev(3, insert(dot(0, 2), true, 'y')))
}

// P10.2: Write and Erase at -1, 0, the text's length and one more
func TestPlaces(t *testing.T) {
	for _, text := range []string{"", "a", "abc"} {
		d := doc.New()
		for i, c := range []byte(text) {
			do(t, d)(d.Write(0, i, c))
		}
		// Deleted nodes are no places.
		do(t, d)(d.Write(0, len(text), 'x'))
		do(t, d)(d.Erase(0, len(text)))
		n := len(text)
		for _, i := range []int{math.MinInt, -n - 1, -1, n + 1, n + 2, math.MaxInt} {
			forbids(t, d, "Write", func() (api.Event, api.Errno) { return d.Write(0, i, 'y') }, api.ErrRange)
			forbids(t, d, "Erase", func() (api.Event, api.Errno) { return d.Erase(0, i) }, api.ErrRange)
		}
		forbids(t, d, "Erase at the end", func() (api.Event, api.Errno) { return d.Erase(0, n) }, api.ErrRange)
		for i := range n + 1 {
			if e, err := d.Write(0, i, 'y'); err != api.OK || !causal.Ready(d.Vector(), e) {
				t.Errorf("Write at %d of %q: %d", i, text, err)
			}
		}
		for i := range n {
			if e, err := d.Erase(0, i); err != api.OK || !causal.Ready(d.Vector(), e) {
				t.Errorf("Erase at %d of %q: %d", i, text, err)
			}
		}
	}
}

// wrongNumbers asks for ErrRange of numbers that may not be, whatever else is wrong.
func wrongNumbers(t *testing.T, d *doc.Doc) {
	t.Helper()
	for _, i := range []int{-1, 0, 1000} {
		for _, author := range []byte{8, 9, 128, 255} {
			forbids(t, d, "Write of no author", func() (api.Event, api.Errno) { return d.Write(author, i, 'a') }, api.ErrRange)
			forbids(t, d, "Erase of no author", func() (api.Event, api.Errno) { return d.Erase(author, i) }, api.ErrRange)
		}
		for _, author := range []byte{0, 1, 7} {
			for _, c := range []byte{0, 128, 129, 255} {
				forbids(t, d, "Write of no character", func() (api.Event, api.Errno) { return d.Write(author, i, c) }, api.ErrRange)
			}
		}
	}
	for _, x := range []struct {
		author, who byte
		role        api.Role
	}{
		{8, 1, api.Writer}, {255, 1, api.Writer}, {0, 8, api.Writer}, {0, 255, api.Writer}, {8, 8, api.Writer}, {7, 8, api.Writer},
	} {
		forbids(t, d, "Give", func() (api.Event, api.Errno) { return d.Give(x.author, x.who, x.role) }, api.ErrRange)
		forbids(t, d, "Take", func() (api.Event, api.Errno) { return d.Take(x.author, x.who) }, api.ErrRange)
	}
	for _, role := range []api.Role{api.NoRole, api.Admin + 1, 128, 255} {
		for _, author := range []byte{0, 1, 7} {
			forbids(t, d, "Give of no role", func() (api.Event, api.Errno) { return d.Give(author, 7, role) }, api.ErrRange)
		}
	}
}

// everyAsk are the four, of one author.
func everyAsk(d *doc.Doc, author byte, i int) map[string]func() (api.Event, api.Errno) {
	return map[string]func() (api.Event, api.Errno){
		"Write": func() (api.Event, api.Errno) { return d.Write(author, i, 'a') },
		"Erase": func() (api.Event, api.Errno) { return d.Erase(author, i) },
		"Give":  func() (api.Event, api.Errno) { return d.Give(author, 7, api.Reader) },
		"Take":  func() (api.Event, api.Errno) { return d.Take(author, 7) },
	}
}

// P10.2, P2: the errors, one ahead of the other
func TestToldErrors(t *testing.T) {
	for role := api.NoRole; role <= api.Admin; role++ {
		d := withRole(t, role)
		wrongNumbers(t, d)
		for _, i := range []int{-1, 0, 1, 2} {
			for name, ask := range everyAsk(d, 1, i) {
				edits := name == "Write" || name == "Erase"
				switch {
				case role == api.Admin && !edits, role >= api.Writer && (i == 0 || i == 1 && name == "Write") && edits:
					if e, err := ask(); err != api.OK || e.Dot != dot(1, 1) || e.Past != d.Vector() {
						t.Errorf("%s at %d by %d: %v, %d", name, i, role, e, err)
					}
				case role >= api.Writer && edits:
					forbids(t, d, name, ask, api.ErrRange)
				default:
					forbids(t, d, name, ask, api.ErrRole)
				}
			}
		}
	}
}

// P10.2, P2: MaxLog events, ahead of roles and of places
func TestToldWhenFull(t *testing.T) {
	d := withRole(t, api.Reader)
	for len(d.Events()) < api.MaxLog-1 {
		apply(t, d, told(first('n'), 2, d.Vector()[2]+1))
	}
	for author := range byte(3) {
		for name, ask := range everyAsk(d, author, 0) {
			want := api.ErrRole
			if author == 0 {
				want = api.OK
			}
			if _, err := ask(); err != want {
				t.Errorf("%s by %d: %d", name, author, err)
			}
		}
	}
	do(t, d)(d.Write(0, 0, 'z'))
	wrongNumbers(t, d)
	for _, i := range []int{-1, 0, 1, 1000} {
		for author := range byte(api.Authors) {
			for name, ask := range everyAsk(d, author, i) {
				forbids(t, d, name, ask, api.ErrFull)
			}
		}
	}
}

// P10.2: a role is that by the vector
func TestToldRoles(t *testing.T) {
	d := doc.New()
	may := func(author byte, edits, gives bool) {
		t.Helper()
		_, err := d.Write(author, 0, 'a')
		if _, other := d.Give(author, author, api.Reader); (err == api.OK) != edits || (other == api.OK) != gives {
			t.Errorf("%d: %d, %d", author, err, other)
		}
	}
	may(0, true, true)
	may(1, false, false)
	do(t, d)(d.Give(0, 1, api.Writer))
	may(1, true, false)
	do(t, d)(d.Give(0, 1, api.Reader))
	may(1, false, false)
	do(t, d)(d.Give(0, 1, api.Admin))
	may(1, true, true)
	do(t, d)(d.Take(1, 0))
	may(0, false, false)
	may(1, true, true)
	do(t, d)(d.Take(1, 1))
	may(1, false, false)
	if d.Members() != [api.Authors]api.Role{} {
		t.Error(d.Members())
	}
}

// readyOrders calls f with each order of the events in which each stands behind those it saw.
func readyOrders(l []api.Event, f func([]api.Event)) {
	var turn func(done, left []api.Event, v api.Vector)
	turn = func(done, left []api.Event, v api.Vector) {
		if len(left) == 0 {
			f(done)
		}
		for i, e := range left {
			if !causal.Ready(v, e) {
				continue
			}
			w := v
			w[e.Dot.Author]++
			turn(append(slices.Clone(done), e), slices.Delete(slices.Clone(left), i, i+1), w)
		}
	}
	turn(nil, l, api.Vector{})
}

// inOrder tells a state with its events by their dots, so that two orders can be held against each other.
func inOrder(s state) state {
	type pair struct {
		e     api.Event
		force bool
	}
	var l []pair
	for i, e := range s.events {
		l = append(l, pair{e, s.force[i]})
	}
	slices.SortFunc(l, func(a, b pair) int {
		return (int(a.e.Dot.Author)-int(b.e.Dot.Author))*(api.MaxSeq+1) + int(a.e.Dot.Seq) - int(b.e.Dot.Seq)
	})
	s.events, s.force = nil, nil
	for _, p := range l {
		s.events, s.force = append(s.events, p.e), append(s.force, p.force)
	}
	return s
}

// P10.3: every order that the pasts allow
func TestEveryOrder(t *testing.T) {
	start := []api.Event{told(grant(1, api.Admin), 0, 1), told(grant(2, api.Writer), 0, 2)}
	for name, l := range map[string][]api.Event{
		"two admins take each other's roles, and write": {
			told(revoke(1), 0, 3), told(revoke(0), 1, 1, 2), told(first('a'), 0, 4), told(first('b'), 1, 2, 2), told(first('c'), 1, 3, 3), told(first('d'), 0, 5, 0, 1), told(first('e'), 2, 1, 2),
		},
		"a writer whose role is taken away by one, and given by the other": {
			told(revoke(2), 0, 3), told(grant(2, api.Admin), 1, 1, 2), told(first('a'), 2, 1, 2), told(insert(dot(2, 1), true, 'b'), 2, 2, 3), told(insert(dot(2, 1), true, 'c'), 2, 3, 2, 1), told(erase(dot(2, 1)), 2, 4, 3, 1), told(revoke(0), 2, 5, 2, 1), told(first('d'), 0, 4), told(first('e'), 1, 2, 2),
		},
		"under nodes that are there, and that are not": {
			told(first('a'), 2, 1, 2), told(first('b'), 3, 1), told(insert(dot(3, 1), true, 'c'), 0, 3, 0, 0, 0, 1), told(insert(dot(2, 1), false, 'd'), 1, 1, 2, 0, 1), told(erase(dot(2, 1)), 0, 4, 0, 0, 1), told(erase(dot(2, 1)), 1, 2, 2, 0, 1), told(erase(dot(3, 1)), 2, 2, 2, 0, 0, 1),
		},
	} {
		var want state
		orders := 0
		readyOrders(slices.Concat(start, l), func(l []api.Event) {
			d := fresh(t, l...)
			got := inOrder(stateOf(d))
			if orders == 0 {
				want = got
			}
			orders++
			if !got.same(want) || !stateOf(d).same(plain(l).state()) {
				t.Fatalf("%s: %v instead of %v", name, got, want)
			}
		})
		if orders < 20 {
			t.Errorf("%s: %d orders", name, orders)
		}
	}
}

// P10.3, P9.5: what comes of the first of these by hand
func TestTakeEachOthers(t *testing.T) {
	l := []api.Event{told(grant(1, api.Admin), 0, 1), told(revoke(1), 0, 2), told(revoke(0), 1, 1, 1), told(first('a'), 0, 3), told(first('b'), 1, 2, 1), told(first('c'), 0, 4, 0, 1), told(first('d'), 1, 3, 2)}
	readyOrders(l, func(l []api.Event) {
		d := fresh(t, l...)
		asksText(t, d, "ab")
		if d.Members() != [api.Authors]api.Role{} {
			t.Error(d.Members())
		}
		asksForce(t, d, dot(0, 4), false)
		asksForce(t, d, dot(1, 3), false)
	})
}

// near is an event that may be applied next; its past, its parent and what it does may be any that are right.
func (w *drawer) near(d *doc.Doc) api.Event {
	v, a := d.Vector(), byte(w.below(4))
	var e api.Event
	for i := range e.Past {
		e.Past[i] = uint32(max(0, int(v[i])-w.below(4)*w.below(2)))
	}
	e.Dot, e.Past[a] = dot(a, v[a]+1), v[a]
	parent, there := w.parent(d, e.Past)
	switch k := w.below(16); {
	case k < 6 && there:
		e.Kind, e.Parent, e.Right, e.Char = api.Insert, parent, w.below(2) == 0, byte(1+w.below(127))
	case k < 8:
		e.Kind, e.Right, e.Char = api.Insert, true, byte(1+w.below(127))
	case k < 11 && there:
		e.Kind, e.Parent = api.Delete, parent
	case k < 13:
		e.Kind, e.Who = api.Revoke, byte(max(w.below(5), w.below(5)))
	default:
		e.Kind, e.Who, e.Role = api.Grant, byte(w.below(5)), api.Role(1+max(w.below(3), w.below(3)))
	}
	return e
}

// parent is a dot that a past saw, most often of an insert that has force.
func (w *drawer) parent(d *doc.Doc, past api.Vector) (api.Dot, bool) {
	var nodes, others []api.Dot
	for _, e := range d.Events() {
		switch {
		case !causal.Has(past, e.Dot):
		case e.Kind == api.Insert && d.Force(e.Dot):
			nodes = append(nodes, e.Dot)
		default:
			others = append(others, e.Dot)
		}
	}
	if len(nodes) == 0 || len(others) > 0 && w.below(4) == 0 {
		nodes = others
	}
	if len(nodes) == 0 {
		return api.Dot{}, false
	}
	return nodes[w.below(len(nodes))], true
}

// P10.1, P10.3, P10.4, P6
func TestDrawn(t *testing.T) {
	forceful, idle := map[api.Kind]int{}, map[api.Kind]int{}
	for seed := range 60 {
		w := drawer(seed)
		d := doc.New()
		for range 40 {
			e := w.near(d)
			ahead := stateOf(d)
			role := plain(ahead.events).book().Role(e.Dot.Author, e.Past)
			apply(t, d, e)
			if got, want := stateOf(d), plain(d.Events()).state(); !got.same(want) {
				t.Fatalf("behind %v: %v instead of %v", e, got, want)
			}
			allowed := role == api.Admin || role == api.Writer && e.Kind <= api.Delete
			if d.Force(e.Dot) && !allowed {
				t.Fatalf("%v has force, of role %d", e, role)
			}
			if !d.Force(e.Dot) && (string(d.Text()) != ahead.text || d.Members() != ahead.members) {
				t.Fatalf("%v, without force, has changed something", e)
			}
			if d.Force(e.Dot) {
				forceful[e.Kind]++
			} else {
				idle[e.Kind]++
			}
		}
		want := inOrder(stateOf(d))
		for range 10 {
			got := inOrder(stateOf(fresh(t, shuffled(&w, d.Events())...)))
			if !got.same(want) {
				t.Fatalf("%v instead of %v", got, want)
			}
		}
	}
	for k := api.Insert; k <= api.Revoke; k++ {
		if forceful[k] < 50 || idle[k] < 50 {
			t.Errorf("kind %d was hardly drawn: %d, %d", k, forceful[k], idle[k])
		}
	}
}

// shuffled is the list in another order in which each stands behind those it saw.
func shuffled(w *drawer, l []api.Event) []api.Event {
	left, out := slices.Clone(l), []api.Event{}
	var v api.Vector
	for len(left) > 0 {
		i := w.below(len(left))
		if e := left[i]; causal.Ready(v, e) {
			v[e.Dot.Author]++
			out = append(out, e)
			left = slices.Delete(left, i, i+1)
		}
	}
	return out
}

// P10.5
func TestWritesAndErases(t *testing.T) {
	for seed := range 30 {
		w := drawer(seed)
		d := fresh(t, told(grant(1, api.Writer), 0, 1), told(grant(2, api.Admin), 0, 2))
		text := []byte{}
		for range 60 {
			author := byte(w.below(3))
			if len(text) > 0 && w.below(3) == 0 {
				i := w.below(len(text))
				e := do(t, d)(d.Erase(author, i))
				asksForce(t, d, e.Dot, true)
				text = slices.Delete(text, i, i+1)
			} else {
				i, c := w.below(len(text)+1), byte(1+w.below(127))
				e := do(t, d)(d.Write(author, i, c))
				asksForce(t, d, e.Dot, true)
				text = slices.Insert(text, i, c)
			}
			if got := d.Text(); !slices.Equal(got, text) {
				t.Fatalf("%q instead of %q", got, text)
			}
		}
	}
}

// P10.5: Give and Take, applied, do so as well
func TestGivesAndTakes(t *testing.T) {
	d := doc.New()
	want := d.Members()
	for _, role := range []api.Role{api.Reader, api.Writer, api.Admin} {
		for who := byte(1); who < api.Authors; who++ {
			e := do(t, d)(d.Give(0, who, role))
			asksForce(t, d, e.Dot, true)
			if want[who] = role; d.Members() != want {
				t.Fatal(d.Members())
			}
		}
	}
	for who := range byte(api.Authors - 1) {
		do(t, d)(d.Take(7, who))
		if want[who] = api.NoRole; d.Members() != want {
			t.Fatal(d.Members())
		}
	}
}

// P10.6: edits that saw a revoke of their author, ones that did not, and ones that saw a new grant
func TestEditsBehindRevoke(t *testing.T) {
	base := []api.Event{told(grant(1, api.Admin), 0, 1), told(grant(2, api.Writer), 0, 2), told(first('a'), 2, 1, 2), told(insert(dot(2, 1), true, 'b'), 0, 3, 0, 0, 1), told(revoke(2), 0, 4, 0, 0, 1)}
	edits := []api.Event{first('x'), insert(dot(2, 1), true, 'x'), insert(dot(0, 3), false, 'x'), erase(dot(2, 1)), erase(dot(0, 3))}
	for _, x := range edits {
		d := fresh(t, base...)
		apply(t, d, told(x, 2, 2, 4))
		asksForce(t, d, dot(2, 2), false)
		asksText(t, d, "ab")
		// What it told behind that, having seen it, is of no use either.
		apply(t, d, told(grant(2, api.Writer), 2, 3, 4), told(x, 2, 4, 4))
		asksText(t, d, "ab")
		if _, err := d.Write(2, 0, 'x'); err != api.ErrRole {
			t.Error(err)
		}
		// A grant at once with the revoke does not undo it.
		apply(t, d, told(grant(2, api.Writer), 1, 1, 3), told(x, 2, 5, 4, 1))
		asksForce(t, d, dot(2, 5), false)
		asksText(t, d, "ab")
		// One behind it does.
		apply(t, d, told(grant(2, api.Writer), 0, 5, 0, 1), told(x, 2, 6, 5, 1))
		asksForce(t, d, dot(2, 6), true)
		if string(d.Text()) == "ab" {
			t.Errorf("%v changes nothing", x)
		}
		// One that did not see the revoke has force, though it comes behind it.
		d = fresh(t, base...)
		apply(t, d, told(x, 2, 2, 3))
		asksForce(t, d, dot(2, 2), true)
		if string(d.Text()) == "ab" {
			t.Errorf("%v changes nothing", x)
		}
	}
}

// P10.6: drawn
func TestEditsBehindRevokeDrawn(t *testing.T) {
	tried := 0
	for seed := range 40 {
		w := drawer(seed)
		d := fresh(t, told(grant(1, api.Admin), 0, 1), told(grant(2, api.Writer), 0, 2), told(grant(3, api.Admin), 0, 3), told(first('a'), 0, 4))
		var taken api.Event
		for i := range 30 {
			if i == 15 {
				taken = told(revoke(2), 0, d.Vector()[0]+1)
				taken.Past = d.Vector()
				apply(t, d, taken)
				if !d.Force(taken.Dot) {
					break
				}
			}
			e := w.near(d)
			if i >= 15 && e.Kind == api.Grant && e.Who == 2 {
				continue
			}
			ahead := string(d.Text())
			apply(t, d, e)
			if e.Dot.Author == 2 && e.Kind <= api.Delete && i >= 15 && causal.Before(taken, e) {
				tried++
				if string(d.Text()) != ahead || d.Force(e.Dot) {
					t.Fatalf("%v has force", e)
				}
			}
		}
	}
	if tried < 20 {
		t.Error(tried)
	}
}

// P3
func TestAnswersAreTheCallers(t *testing.T) {
	d := fresh(t, told(first('a'), 0, 1), told(insert(dot(0, 1), true, 'b'), 0, 2), told(grant(1, api.Writer), 0, 3))
	want := stateOf(d)
	text, events, members, vector := d.Text(), d.Events(), d.Members(), d.Vector()
	text2, events2 := d.Text(), d.Events()
	for i := range text[:cap(text)] {
		text[:cap(text)][i] = '!'
	}
	for i := range events[:cap(events)] {
		events[:cap(events)][i] = told(revoke(5), 5, 5)
	}
	members[1], vector[0] = api.NoRole, 9
	if !stateOf(d).same(want) || string(text2) != want.text || !slices.Equal(events2, want.events) {
		t.Error("an answer lies in what is kept, or in another one")
	}
	// What is applied later doesn't stand in the room behind an answer.
	_ = append(events2, told(revoke(6), 6, 6))
	apply(t, d, told(revoke(1), 0, 4))
	if !slices.Equal(d.Events(), append(want.events, told(revoke(1), 0, 4))) {
		t.Error(d.Events())
	}
	if more := events2[:cap(events2)]; slices.Contains(more, told(revoke(1), 0, 4)) {
		t.Error("it stands behind an answer")
	}
}

// P4
func TestFork(t *testing.T) {
	d := fresh(t, told(first('a'), 0, 1), told(grant(1, api.Writer), 0, 2), told(insert(dot(0, 1), true, 'b'), 1, 1, 2))
	f := d.Fork()
	if f == d {
		t.Fatal("the same one")
	}
	want := stateOf(d)
	if !stateOf(f).same(want) {
		t.Fatal(stateOf(f))
	}
	apply(t, f, told(insert(dot(0, 1), true, 'c'), 0, 3), told(erase(dot(0, 1)), 0, 4), told(revoke(1), 0, 5))
	if !stateOf(d).same(want) || d.Force(dot(0, 3)) {
		t.Error("what became of the fork has changed the document")
	}
	ofFork := stateOf(f)
	apply(t, d, told(grant(2, api.Admin), 0, 3), told(insert(dot(1, 1), true, 'd'), 1, 2, 2), told(first('e'), 2, 1, 3))
	if !stateOf(f).same(ofFork) || f.Force(dot(1, 2)) || f.Force(dot(2, 1)) {
		t.Error("what became of the document has changed the fork")
	}
	asksText(t, f, "cb")
	asksText(t, d, "abde")
	refused(t, f, told(first('a'), 0, 1), api.ErrKnown)
	apply(t, doc.New().Fork(), told(first('a'), 0, 1))
}

// P4: a document and its forks, of which each goes its own way, many times over
func TestForksDrawn(t *testing.T) {
	w := drawer(7)
	docs, lists := []*doc.Doc{doc.New()}, [][]api.Event{nil}
	for range 120 {
		i := w.below(len(docs))
		if len(docs) < 6 && w.below(6) == 0 {
			docs, lists = append(docs, docs[i].Fork()), append(lists, slices.Clone(lists[i]))
		}
		e := w.near(docs[i])
		apply(t, docs[i], e)
		lists[i] = append(lists[i], e)
		for j := range docs {
			if !stateOf(docs[j]).same(plain(lists[j]).state()) {
				t.Fatal(j)
			}
		}
	}
}
