package causal_test

import (
	"math"
	"testing"

	"escritoire/api"
	"escritoire/causal"
)

func dot(author byte, seq uint32) api.Dot { return api.Dot{Author: author, Seq: seq} }

// drawer draws numbers, the same ones every time.
type drawer uint64

func (d *drawer) below(n int) int {
	*d = *d*6364136223846793005 + 1442695040888963407
	return int(uint64(*d)>>33) % n
}

func (d *drawer) vector(n int) api.Vector {
	var v api.Vector
	for i := range v {
		v[i] = uint32(d.below(n))
	}
	return v
}

// vectors are some of any kind.
func vectors() []api.Vector {
	d := drawer(1)
	l := []api.Vector{{}, {1}, {0, 0, 0, 0, 0, 0, 0, 1}, {3, 1, 4, 1, 5, 9, 2, 6}, {math.MaxUint32, math.MaxUint32, math.MaxUint32, math.MaxUint32, math.MaxUint32, math.MaxUint32, math.MaxUint32, math.MaxUint32}}
	for range 40 {
		l = append(l, d.vector(3))
	}
	return l
}

// P7.1
func TestHas(t *testing.T) {
	v := api.Vector{3, 0, 1, api.MaxSeq, math.MaxUint32, 0, 0, 2}
	for _, x := range []struct {
		d    api.Dot
		want bool
	}{
		{dot(0, 0), false}, {dot(0, 1), true}, {dot(0, 2), true}, {dot(0, 3), true}, {dot(0, 4), false}, {dot(0, math.MaxUint32), false},
		{dot(1, 0), false}, {dot(1, 1), false},
		{dot(2, 0), false}, {dot(2, 1), true}, {dot(2, 2), false},
		{dot(3, api.MaxSeq), true}, {dot(3, api.MaxSeq+1), false},
		{dot(4, 0), false}, {dot(4, api.MaxSeq+1), true}, {dot(4, math.MaxUint32), true},
		{dot(7, 2), true}, {dot(7, 3), false},
		{dot(8, 0), false}, {dot(8, 1), false}, {dot(255, 1), false}, {dot(128, 0), false},
	} {
		if got := causal.Has(v, x.d); got != x.want {
			t.Errorf("Has(%v, %v) = %v", v, x.d, got)
		}
	}
}

// P7.1
func TestWithin(t *testing.T) {
	for _, a := range vectors() {
		for _, b := range vectors() {
			want := true
			for i := range a {
				want = want && !(a[i] > b[i])
			}
			if got := causal.Within(a, b); got != want {
				t.Errorf("Within(%v, %v) = %v", a, b, got)
			}
		}
	}
	// One number alone decides, whichever it is.
	for i := range api.Authors {
		a := api.Vector{5, 5, 5, 5, 5, 5, 5, 5}
		b := a
		if !causal.Within(a, b) {
			t.Error("not within itself")
		}
		b[i] = 4
		if causal.Within(a, b) || !causal.Within(b, a) {
			t.Error(i)
		}
	}
}

// P7.1, P3
func TestJoin(t *testing.T) {
	for _, a := range vectors() {
		for _, b := range vectors() {
			a0, b0 := a, b
			got := causal.Join(a, b)
			for i := range got {
				want := a0[i]
				if b0[i] > want {
					want = b0[i]
				}
				if got[i] != want {
					t.Fatalf("Join(%v, %v) = %v", a, b, got)
				}
			}
			if a != a0 || b != b0 {
				t.Fatal("what was handed in has changed")
			}
			if !causal.Within(a, got) || !causal.Within(b, got) || got != causal.Join(b, a) {
				t.Fatal(a, b, got)
			}
		}
	}
}

// insert, erase, grant, revoke are right ones of author 2, the fourth event of it.
func insert() api.Event {
	return api.Event{Dot: dot(2, 4), Past: api.Vector{2, 0, 3, 0, 0, 0, 0, 1}, Kind: api.Insert, Parent: dot(0, 2), Char: 'a'}
}

func erase() api.Event {
	e := insert()
	e.Kind, e.Char = api.Delete, 0
	return e
}

func grant() api.Event {
	e := insert()
	e.Kind, e.Char, e.Parent, e.Who, e.Role = api.Grant, 0, api.Dot{}, 5, api.Writer
	return e
}

func revoke() api.Event {
	e := grant()
	e.Kind, e.Role = api.Revoke, api.NoRole
	return e
}

func everyKind() []api.Event { return []api.Event{insert(), erase(), grant(), revoke()} }

// P7.1: what holds of an event of each kind
func TestRightDots(t *testing.T) {
	for _, e := range everyKind() {
		for _, x := range []struct {
			name   string
			change func(*api.Event)
			want   bool
		}{
			{"as it is", func(e *api.Event) {}, true},
			{"no author", func(e *api.Event) { e.Dot.Author = 8 }, false},
			{"no author either", func(e *api.Event) { e.Dot.Author = 255 }, false},
			{"another author", func(e *api.Event) { e.Dot.Author = 0 }, false},
			{"Seq 0", func(e *api.Event) { e.Dot.Seq = 0 }, false},
			{"Seq 0, Past as far below it as can be", func(e *api.Event) { e.Dot.Seq, e.Past[2] = 0, math.MaxUint32 }, false},
			{"Seq one less", func(e *api.Event) { e.Dot.Seq-- }, false},
			{"Seq one more", func(e *api.Event) { e.Dot.Seq++ }, false},
			{"Seq 1", func(e *api.Event) { e.Dot.Seq, e.Past[2] = 1, 0 }, true},
			{"Past of itself", func(e *api.Event) { e.Past[2] = 4 }, false},
			{"author 0", func(e *api.Event) { e.Dot = dot(0, 3) }, true},
			{"author 7", func(e *api.Event) { e.Dot = dot(7, 2) }, true},
			{"Seq MaxSeq", func(e *api.Event) { e.Dot.Seq, e.Past[2] = api.MaxSeq, api.MaxSeq-1 }, true},
			{"Seq above MaxSeq", func(e *api.Event) { e.Dot.Seq, e.Past[2] = api.MaxSeq+1, api.MaxSeq }, false},
			{"Past MaxSeq", func(e *api.Event) { e.Past[7] = api.MaxSeq }, true},
			{"Past above MaxSeq", func(e *api.Event) { e.Past[7] = api.MaxSeq + 1 }, false},
			{"first Past above MaxSeq", func(e *api.Event) { e.Past[0] = api.MaxSeq + 1 }, false},
			{"Past as great as can be", func(e *api.Event) { e.Past[5] = math.MaxUint32 }, false},
			{"no kind", func(e *api.Event) { e.Kind = api.NoKind }, false},
			{"kind 5", func(e *api.Event) { e.Kind = 5 }, false},
			{"kind 255", func(e *api.Event) { e.Kind = 255 }, false},
		} {
			e := e
			x.change(&e)
			if got := causal.Right(e); got != x.want {
				t.Errorf("kind %d, %s: %v", e.Kind, x.name, got)
			}
		}
	}
}

// P7.1: each field of each kind
func TestRightFields(t *testing.T) {
	for _, x := range []struct {
		name   string
		e      api.Event
		change func(*api.Event)
		want   bool
	}{
		{"insert: Char 0", insert(), func(e *api.Event) { e.Char = 0 }, false},
		{"insert: Char 1", insert(), func(e *api.Event) { e.Char = 1 }, true},
		{"insert: Char 127", insert(), func(e *api.Event) { e.Char = 127 }, true},
		{"insert: Char 128", insert(), func(e *api.Event) { e.Char = 128 }, false},
		{"insert: Char 255", insert(), func(e *api.Event) { e.Char = 255 }, false},
		{"insert: at the right", insert(), func(e *api.Event) { e.Right = true }, true},
		{"insert: at the root's right", insert(), func(e *api.Event) { e.Parent, e.Right = api.Dot{}, true }, true},
		{"insert: at the root's left", insert(), func(e *api.Event) { e.Parent, e.Right = api.Dot{}, false }, false},
		{"insert: Parent not seen", insert(), func(e *api.Event) { e.Parent = dot(0, 3) }, false},
		{"insert: Parent not seen, at its right", insert(), func(e *api.Event) { e.Parent, e.Right = dot(0, 3), true }, false},
		{"insert: Parent of the author's last one", insert(), func(e *api.Event) { e.Parent = dot(2, 3) }, true},
		{"insert: Parent is itself", insert(), func(e *api.Event) { e.Parent = dot(2, 4) }, false},
		{"insert: Parent of no author", insert(), func(e *api.Event) { e.Parent, e.Right = dot(8, 1), true }, false},
		{"insert: Parent of Seq 0", insert(), func(e *api.Event) { e.Parent, e.Right = dot(2, 0), true }, false},
		{"insert: Parent of Seq 0, no author", insert(), func(e *api.Event) { e.Parent, e.Right = dot(255, 0), true }, false},
		{"insert: Who", insert(), func(e *api.Event) { e.Who = 1 }, false},
		{"insert: Role", insert(), func(e *api.Event) { e.Role = api.Reader }, false},

		{"delete: Parent not seen", erase(), func(e *api.Event) { e.Parent = dot(0, 3) }, false},
		{"delete: Parent none", erase(), func(e *api.Event) { e.Parent = api.Dot{} }, false},
		{"delete: Parent none, Right", erase(), func(e *api.Event) { e.Parent, e.Right = api.Dot{}, true }, false},
		{"delete: Parent of no author", erase(), func(e *api.Event) { e.Parent = dot(8, 1) }, false},
		{"delete: Parent of Seq 0", erase(), func(e *api.Event) { e.Parent = dot(2, 0) }, false},
		{"delete: Parent the author's", erase(), func(e *api.Event) { e.Parent = dot(2, 1) }, true},
		{"delete: Right", erase(), func(e *api.Event) { e.Right = true }, false},
		{"delete: Char", erase(), func(e *api.Event) { e.Char = 'a' }, false},
		{"delete: Who", erase(), func(e *api.Event) { e.Who = 1 }, false},
		{"delete: Role", erase(), func(e *api.Event) { e.Role = api.Reader }, false},

		{"grant: Who 0", grant(), func(e *api.Event) { e.Who = 0 }, true},
		{"grant: Who 7", grant(), func(e *api.Event) { e.Who = 7 }, true},
		{"grant: Who the author", grant(), func(e *api.Event) { e.Who = 2 }, true},
		{"grant: Who 8", grant(), func(e *api.Event) { e.Who = 8 }, false},
		{"grant: Who 255", grant(), func(e *api.Event) { e.Who = 255 }, false},
		{"grant: NoRole", grant(), func(e *api.Event) { e.Role = api.NoRole }, false},
		{"grant: Reader", grant(), func(e *api.Event) { e.Role = api.Reader }, true},
		{"grant: Admin", grant(), func(e *api.Event) { e.Role = api.Admin }, true},
		{"grant: Role 4", grant(), func(e *api.Event) { e.Role = 4 }, false},
		{"grant: Role 255", grant(), func(e *api.Event) { e.Role = 255 }, false},
		{"grant: Parent", grant(), func(e *api.Event) { e.Parent = dot(0, 2) }, false},
		{"grant: Parent of Seq 0", grant(), func(e *api.Event) { e.Parent = dot(1, 0) }, false},
		{"grant: Right", grant(), func(e *api.Event) { e.Right = true }, false},
		{"grant: Char", grant(), func(e *api.Event) { e.Char = 1 }, false},

		{"revoke: Who 0", revoke(), func(e *api.Event) { e.Who = 0 }, true},
		{"revoke: Who 7", revoke(), func(e *api.Event) { e.Who = 7 }, true},
		{"revoke: Who 8", revoke(), func(e *api.Event) { e.Who = 8 }, false},
		{"revoke: Who 255", revoke(), func(e *api.Event) { e.Who = 255 }, false},
		{"revoke: Role", revoke(), func(e *api.Event) { e.Role = api.Reader }, false},
		{"revoke: Parent", revoke(), func(e *api.Event) { e.Parent = dot(0, 2) }, false},
		{"revoke: Parent of Seq 0", revoke(), func(e *api.Event) { e.Parent = dot(1, 0) }, false},
		{"revoke: Right", revoke(), func(e *api.Event) { e.Right = true }, false},
		{"revoke: Char", revoke(), func(e *api.Event) { e.Char = 1 }, false},
	} {
		x.change(&x.e)
		if got := causal.Right(x.e); got != x.want {
			t.Errorf("%s: %v", x.name, got)
		}
	}
}

// plainSeen and plainRight are the chapter's words once more.
func plainSeen(v api.Vector, d api.Dot) bool {
	return int(d.Author) < len(v) && d.Seq != 0 && !(d.Seq > v[d.Author])
}

func plainRight(e api.Event) bool {
	none := api.Dot{}
	if e.Dot.Author > 7 || e.Dot.Seq < 1 || e.Dot.Seq > 1<<20 || int64(e.Past[e.Dot.Author]) != int64(e.Dot.Seq)-1 {
		return false
	}
	for _, n := range e.Past {
		if n > 1<<20 {
			return false
		}
	}
	switch {
	case e.Kind == 1:
		under := e.Parent == none && e.Right || plainSeen(e.Past, e.Parent)
		return e.Char > 0 && e.Char < 128 && under && e.Who == 0 && e.Role == 0
	case e.Kind == 2:
		return plainSeen(e.Past, e.Parent) && !e.Right && e.Char == 0 && e.Who == 0 && e.Role == 0
	case e.Kind == 3:
		return e.Who < 8 && (e.Role == 1 || e.Role == 2 || e.Role == 3) && e.Parent == none && !e.Right && e.Char == 0
	case e.Kind == 4:
		return e.Who < 8 && e.Role == 0 && e.Parent == none && !e.Right && e.Char == 0
	}
	return false
}

// everyEdge calls f with an event of each choice of edges.
func everyEdge(f func(api.Event)) {
	e := api.Event{}
	for _, d := range []api.Dot{{}, {Seq: 1}, {Author: 1, Seq: 2}, {Author: 7, Seq: 2}, {Author: 8, Seq: 2}} {
		for _, past := range []api.Vector{{}, {0, 1, 0, 0, 0, 0, 0, 1}, {api.MaxSeq, 1}, {api.MaxSeq + 1, 1}} {
			for kind := range api.Kind(6) {
				for _, parent := range []api.Dot{{}, {Seq: 1}, {Author: 1}, {Author: 1, Seq: 1}, {Author: 8, Seq: 1}} {
					for _, c := range []byte{0, 1, 127, 128} {
						for _, who := range []byte{0, 1, 7, 8} {
							for role := range api.Role(5) {
								e.Dot, e.Past, e.Kind, e.Parent, e.Char, e.Who, e.Role = d, past, kind, parent, c, who, role
								e.Right = false
								f(e)
								e.Right = true
								f(e)
							}
						}
					}
				}
			}
		}
	}
}

// P7.1
func TestRightAndReadyAtAllEdges(t *testing.T) {
	right, ready := 0, 0
	everyEdge(func(e api.Event) {
		want := plainRight(e)
		if causal.Right(e) != want {
			t.Fatalf("Right(%v) = %v", e, !want)
		}
		if want {
			right++
		}
		for _, v := range []api.Vector{{}, {0, 1}, {0, 1, 0, 0, 0, 0, 0, 1}, {api.MaxSeq, 1, 5, 5, 5, 5, 5, 1}} {
			want := plainReady(v, e)
			if causal.Ready(v, e) != want {
				t.Fatalf("Ready(%v, %v) = %v", v, e, !want)
			}
			if want {
				ready++
			}
		}
	})
	if right == 0 || ready == 0 {
		t.Error("none was right, or none ready")
	}
}

// plainReady is the chapter's words once more.
func plainReady(v api.Vector, e api.Event) bool {
	if !plainRight(e) || uint64(e.Dot.Seq) != uint64(v[e.Dot.Author])+1 {
		return false
	}
	for i := range v {
		if e.Past[i] > v[i] {
			return false
		}
	}
	return true
}

// P7.1
func TestReady(t *testing.T) {
	for _, e := range everyKind() {
		for _, x := range []struct {
			name string
			v    api.Vector
			want bool
		}{
			{"what it saw", e.Past, true},
			{"more than it saw", api.Vector{9, 9, 3, 9, 9, 9, 9, 9}, true},
			{"as much as can be", api.Vector{math.MaxUint32, math.MaxUint32, 3, math.MaxUint32, math.MaxUint32, math.MaxUint32, math.MaxUint32, math.MaxUint32}, true},
			{"one ahead of it is missing", api.Vector{2, 0, 2, 0, 0, 0, 0, 1}, false},
			{"it was seen", api.Vector{2, 0, 4, 0, 0, 0, 0, 1}, false},
			{"one that it saw is missing", api.Vector{1, 0, 3, 0, 0, 0, 0, 1}, false},
			{"the last one that it saw is missing", api.Vector{2, 0, 3, 0, 0, 0, 0, 0}, false},
			{"nothing", api.Vector{}, false},
		} {
			if got := causal.Ready(x.v, e); got != x.want {
				t.Errorf("kind %d, %s: %v", e.Kind, x.name, got)
			}
		}
		e.Dot.Author = 8
		if causal.Ready(e.Past, e) {
			t.Error("ready, and not right")
		}
	}
	// One more than the greatest number is not 0.
	full := api.Vector{math.MaxUint32, math.MaxUint32, math.MaxUint32, math.MaxUint32, math.MaxUint32, math.MaxUint32, math.MaxUint32, math.MaxUint32}
	for _, seq := range []uint32{0, 1, math.MaxUint32} {
		e := api.Event{Dot: dot(0, seq), Kind: api.Revoke}
		e.Past[0] = seq - 1
		if causal.Ready(full, e) {
			t.Error(seq)
		}
	}
}

// P7.1
func TestBefore(t *testing.T) {
	b := insert()
	for _, x := range []struct {
		d    api.Dot
		want bool
	}{
		{dot(0, 0), false}, {dot(0, 1), true}, {dot(0, 2), true}, {dot(0, 3), false}, {dot(1, 1), false},
		{dot(2, 3), true}, {dot(2, 4), false}, {dot(2, 5), false}, {dot(7, 1), true}, {dot(7, 0), false}, {dot(8, 1), false}, {dot(255, 0), false},
	} {
		if got := causal.Before(api.Event{Dot: x.d}, b); got != x.want {
			t.Errorf("%v: %v", x.d, got)
		}
		// The dot of the one and Past of the other one decide, nothing else.
		a := grant()
		a.Dot = x.d
		if got := causal.Before(a, api.Event{Past: b.Past}); got != x.want {
			t.Errorf("%v, with more: %v", x.d, got)
		}
	}
	if causal.Before(b, b) {
		t.Error("before itself")
	}
}
