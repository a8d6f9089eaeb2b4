package causal_test

import (
	"slices"
	"testing"

	"escritoire/api"
	"escritoire/causal"
)

// told is a right event: past is what its author saw of all, and its own number of it is put right.
func told(author byte, seq uint32, past ...uint32) api.Event {
	e := api.Event{Dot: dot(author, seq), Kind: api.Revoke, Who: 5}
	copy(e.Past[:], past)
	e.Past[author] = seq - 1
	return e
}

// unlike is another right event with the same dot.
func unlike(e api.Event) api.Event {
	e.Who = 6
	return e
}

func dotsOf(l []api.Event) []api.Dot {
	var out []api.Dot
	for _, e := range l {
		out = append(out, e.Dot)
	}
	return out
}

func put(t *testing.T, b *causal.Buffer, e api.Event) []api.Event {
	t.Helper()
	l, err := b.Put(e)
	if err != api.OK {
		t.Fatalf("Put(%v) = %d", e.Dot, err)
	}
	return l
}

// refused asks for an error of a Put, and that nothing has changed.
func refused(t *testing.T, b *causal.Buffer, e api.Event, want api.Errno) {
	t.Helper()
	seen, waiting := b.Seen(), b.Waiting()
	l, err := b.Put(e)
	if err != want || len(l) != 0 {
		t.Errorf("Put(%v) = %v, %d instead of %d", e.Dot, l, err, want)
	}
	if b.Seen() != seen || !slices.Equal(b.Waiting(), waiting) {
		t.Errorf("Put(%v), refused, has changed the buffer", e.Dot)
	}
}

func asks(t *testing.T, b *causal.Buffer, seen api.Vector, waiting ...api.Event) {
	t.Helper()
	if b.Seen() != seen {
		t.Errorf("seen %v instead of %v", b.Seen(), seen)
	}
	if !slices.Equal(b.Waiting(), waiting) {
		t.Errorf("waiting %v instead of %v", dotsOf(b.Waiting()), dotsOf(waiting))
	}
}

// P1
func TestNilBuffer(t *testing.T) {
	var b *causal.Buffer
	for _, e := range []api.Event{{}, told(0, 1), told(0, 2), {Dot: dot(255, 0)}} {
		if l, err := b.Put(e); len(l) != 0 || err != api.ErrNil {
			t.Error(l, err)
		}
	}
	if b.Seen() != (api.Vector{}) || len(b.Waiting()) != 0 || b.Fork() != nil {
		t.Error("a nil buffer answers something")
	}
}

// P7.2
func TestNewBuffer(t *testing.T) {
	b := causal.New()
	if b == nil {
		t.Fatal("nil")
	}
	asks(t, b, api.Vector{})
	put(t, b, told(0, 1))
	asks(t, causal.New(), api.Vector{})
}

// P7.2: the chapter's example
func TestSecondWaitsForFirst(t *testing.T) {
	for a := range byte(api.Authors) {
		b := causal.New()
		first, second := told(a, 1), told(a, 2)
		if l := put(t, b, second); len(l) != 0 {
			t.Error(l)
		}
		asks(t, b, api.Vector{}, second)
		if l := put(t, b, first); !slices.Equal(l, []api.Event{first, second}) {
			t.Error(dotsOf(l))
		}
		var seen api.Vector
		seen[a] = 2
		asks(t, b, seen)
	}
}

// P7.2: an event of each kind is answered whole
func TestAnsweredWhole(t *testing.T) {
	b := causal.New()
	var all []api.Event
	for i, e := range []api.Event{
		{Kind: api.Insert, Right: true, Char: 127},
		{Kind: api.Insert, Parent: dot(3, 1), Char: 1},
		{Kind: api.Delete, Parent: dot(3, 2)},
		{Kind: api.Grant, Who: 7, Role: api.Admin},
		{Kind: api.Revoke, Who: 1},
	} {
		e.Dot = dot(3, uint32(i+1))
		e.Past[3] = uint32(i)
		all = append(all, e)
	}
	for _, e := range all[1:] {
		put(t, b, e)
	}
	asks(t, b, api.Vector{}, all[1:]...)
	if l := put(t, b, all[0]); !slices.Equal(l, all) {
		t.Error(l)
	}
}

// P7.2: which of those that are ready goes first
func TestFirstOfReady(t *testing.T) {
	b := causal.New()
	// All but the first one wait for 4, 1; then 0, 1 is ready, and behind it, ahead of 1, 1, its second.
	waits := []api.Event{told(6, 1, 0, 0, 0, 0, 1), told(1, 1, 0, 0, 0, 0, 1), told(0, 2, 0, 0, 0, 0, 1), told(4, 2), told(0, 1, 0, 0, 0, 0, 1), told(0, 3, 0, 1)}
	for _, e := range waits {
		if l := put(t, b, e); len(l) != 0 {
			t.Fatal(l)
		}
	}
	asks(t, b, api.Vector{}, waits[4], waits[2], waits[5], waits[1], waits[3], waits[0])
	got := dotsOf(put(t, b, told(4, 1)))
	want := []api.Dot{dot(4, 1), dot(0, 1), dot(0, 2), dot(1, 1), dot(0, 3), dot(4, 2), dot(6, 1)}
	if !slices.Equal(got, want) {
		t.Errorf("%v instead of %v", got, want)
	}
	asks(t, b, api.Vector{3, 1, 0, 0, 2, 0, 1})
}

// P7.2: Seq rises as a number, within an author alone
func TestWaitingInOrder(t *testing.T) {
	b := causal.New()
	l := []api.Event{told(0, 2), told(0, 300), told(1, 2), told(1, 256), told(1, api.MaxSeq), told(7, 2), told(7, 65536)}
	for _, i := range []int{4, 0, 6, 2, 5, 1, 3} {
		put(t, b, l[i])
	}
	asks(t, b, api.Vector{}, l...)
}

// wrong are events with the dot of e that are not right.
func wrong(e api.Event) []api.Event {
	withChar, withRole, withPast, noKind := e, e, e, e
	withChar.Char = 'a'
	withRole.Role = api.Reader
	withPast.Past[e.Dot.Author]++
	noKind.Kind = api.NoKind
	return []api.Event{withChar, withRole, withPast, noKind}
}

// P7.2, P2: the errors, one ahead of the other
func TestPutErrors(t *testing.T) {
	b := causal.New()
	seen, waits := told(0, 1), told(1, 2)
	put(t, b, seen)
	put(t, b, waits)
	check := func() {
		t.Helper()
		refused(t, b, api.Event{}, api.ErrForm)
		refused(t, b, api.Event{Dot: dot(8, 1), Kind: api.Revoke}, api.ErrForm)
		for _, e := range []api.Event{seen, waits, told(2, 1), told(7, 9)} {
			for _, e := range wrong(e) {
				refused(t, b, e, api.ErrForm)
			}
		}
		refused(t, b, seen, api.ErrKnown)
		refused(t, b, unlike(seen), api.ErrKnown)
		refused(t, b, waits, api.ErrKnown)
		refused(t, b, unlike(waits), api.ErrFork)
	}
	check()
	// Where no more may wait these errors stay as they are.
	for i := range uint32(api.MaxWait - 1) {
		put(t, b, told(3, i+2))
	}
	refused(t, b, told(7, 9), api.ErrFull)
	check()
	// And where no more may be answered.
	for i := range uint32(api.MaxLog - 1) {
		put(t, b, told(0, i+2))
	}
	refused(t, b, told(0, api.MaxLog+1), api.ErrFull)
	check()
}

// P7.2: what waits is another one, if any field of it is
func TestForkByAnyField(t *testing.T) {
	base := api.Event{Dot: dot(1, 3), Past: api.Vector{2, 2}, Kind: api.Insert, Parent: dot(0, 1), Char: 'a'}
	others := map[string]func(*api.Event){
		"Past":   func(e *api.Event) { e.Past[7] = 1 },
		"Kind":   func(e *api.Event) { e.Kind, e.Char = api.Delete, 0 },
		"Parent": func(e *api.Event) { e.Parent = dot(0, 2) },
		"Right":  func(e *api.Event) { e.Right = true },
		"Char":   func(e *api.Event) { e.Char = 'b' },
	}
	for name, change := range others {
		b := causal.New()
		put(t, b, base)
		e := base
		change(&e)
		refused(t, b, e, api.ErrFork)
		refused(t, b, base, api.ErrKnown)
		if t.Failed() {
			t.Fatal(name)
		}
	}
	b := causal.New()
	e := api.Event{Dot: dot(1, 3), Past: api.Vector{2, 2}, Kind: api.Grant, Who: 1, Role: api.Writer}
	put(t, b, e)
	e.Role = api.Reader
	refused(t, b, e, api.ErrFork)
	e.Role, e.Who = api.Writer, 2
	refused(t, b, e, api.ErrFork)
}

// P7.2: MaxWait that wait, and one more
func TestMaxWait(t *testing.T) {
	b := causal.New()
	var waits []api.Event
	for i := range uint32(api.MaxWait) {
		e := told(1, i+2)
		if l := put(t, b, e); len(l) != 0 {
			t.Fatal(l)
		}
		waits = append(waits, e)
	}
	refused(t, b, told(1, api.MaxWait+2), api.ErrFull)
	refused(t, b, told(0, 2), api.ErrFull)
	asks(t, b, api.Vector{}, waits...)
	// One that is ready needs no room, whether others come behind it or not.
	if l := put(t, b, told(0, 1)); !slices.Equal(dotsOf(l), []api.Dot{dot(0, 1)}) {
		t.Error(dotsOf(l))
	}
	refused(t, b, told(0, 3), api.ErrFull)
	if l := put(t, b, told(1, 1)); !slices.Equal(l, append([]api.Event{told(1, 1)}, waits...)) {
		t.Error(dotsOf(l))
	}
	asks(t, b, api.Vector{1, api.MaxWait + 1})
	put(t, b, told(0, 3))
	asks(t, b, api.Vector{1, api.MaxWait + 1}, told(0, 3))
}

// P7.2: MaxLog that were answered, and one more
func TestMaxLog(t *testing.T) {
	b := causal.New()
	// They are those of all authors together.
	var seen api.Vector
	for i := range uint32(api.MaxLog) {
		a := byte(i % api.Authors)
		e := told(a, seen[a]+1)
		if l := put(t, b, e); !slices.Equal(l, []api.Event{e}) {
			t.Fatal(i, dotsOf(l))
		}
		seen[a]++
	}
	asks(t, b, seen)
	for a := range byte(api.Authors) {
		refused(t, b, told(a, seen[a]+1), api.ErrFull)
		refused(t, b, told(a, seen[a]+2), api.ErrFull)
		refused(t, b, told(a, seen[a]), api.ErrKnown)
	}
}

// P7.2: what is ready waits on, once MaxLog were answered
func TestMaxLogAmongReady(t *testing.T) {
	b := causal.New()
	for i := range uint32(api.MaxLog - 2) {
		put(t, b, told(0, i+1))
	}
	last := uint32(api.MaxLog)
	put(t, b, told(0, last))
	put(t, b, told(0, last+1))
	put(t, b, told(1, 1, last-1))
	if l := put(t, b, told(0, last-1)); !slices.Equal(dotsOf(l), []api.Dot{dot(0, last-1), dot(0, last)}) {
		t.Error(dotsOf(l))
	}
	asks(t, b, api.Vector{last}, told(0, last+1), told(1, 1, last-1))
	refused(t, b, told(2, 1), api.ErrFull)
	refused(t, b, told(2, 2), api.ErrFull)
	refused(t, b, told(0, last+1), api.ErrKnown)
	refused(t, b, unlike(told(0, last+1)), api.ErrFork)
	refused(t, b, told(0, last), api.ErrKnown)
}

// web are events of three authors that saw some of each other.
func web() []api.Event {
	return []api.Event{told(0, 1), told(0, 2, 0, 2), told(1, 1, 1), told(1, 2, 1, 0, 1), told(2, 1), told(2, 2, 2, 2), told(0, 3, 0, 2, 2)}
}

// everyOrder calls f with the list in each order.
func everyOrder(l []api.Event, f func([]api.Event)) {
	var turn func(int)
	turn = func(n int) {
		if n == len(l) {
			f(l)
			return
		}
		for i := n; i < len(l); i++ {
			l[n], l[i] = l[i], l[n]
			turn(n + 1)
			l[n], l[i] = l[i], l[n]
		}
	}
	turn(0)
}

func sorted(l []api.Event) []api.Event {
	return slices.SortedFunc(slices.Values(l), func(a, b api.Event) int {
		return (int(a.Dot.Author)-int(b.Dot.Author))*(api.MaxSeq+1) + int(a.Dot.Seq) - int(b.Dot.Seq)
	})
}

// P7.3, P7.4: put in every order
func TestEveryOrder(t *testing.T) {
	want := sorted(web())
	everyOrder(web(), func(l []api.Event) {
		b := causal.New()
		var seen api.Vector
		var all []api.Event
		for _, e := range l {
			for _, got := range put(t, b, e) {
				if !plainReady(seen, got) {
					t.Fatalf("%v was not ready of %v", got.Dot, seen)
				}
				seen[got.Dot.Author]++
				all = append(all, got)
			}
			if b.Seen() != seen {
				t.Fatal(b.Seen(), seen)
			}
			for _, e := range b.Waiting() {
				if plainReady(seen, e) {
					t.Fatalf("%v waits, and is ready", e.Dot)
				}
			}
		}
		asks(t, b, api.Vector{3, 2, 2})
		if !slices.Equal(sorted(all), want) {
			t.Fatalf("put as %v, answered %v", dotsOf(l), dotsOf(all))
		}
	})
}

// plainBuffer is the chapter's words once more, with lists.
type plainBuffer struct {
	seen     api.Vector
	answered int
	waits    []api.Event
}

func (p *plainBuffer) put(e api.Event) ([]api.Event, api.Errno) {
	if !plainRight(e) {
		return nil, api.ErrForm
	}
	if plainSeen(p.seen, e.Dot) {
		return nil, api.ErrKnown
	}
	for _, w := range p.waits {
		if w.Dot == e.Dot && w != e {
			return nil, api.ErrFork
		}
		if w == e {
			return nil, api.ErrKnown
		}
	}
	if p.answered == 512 || !plainReady(p.seen, e) && len(p.waits) == 16 {
		return nil, api.ErrFull
	}
	p.waits = sorted(append(p.waits, e))
	var out []api.Event
	for p.answered < 512 {
		i := slices.IndexFunc(p.waits, func(e api.Event) bool { return plainReady(p.seen, e) })
		if i < 0 {
			break
		}
		out = append(out, p.waits[i])
		p.seen[p.waits[i].Dot.Author]++
		p.waits = slices.Delete(p.waits, i, i+1)
		p.answered++
	}
	return out, api.OK
}

// near is an event about what a buffer has seen; it may be of any kind of wrong.
func (d *drawer) near(seen api.Vector, reach int) api.Event {
	a := byte(d.below(3))
	e := told(a, seen[a]+uint32(d.below(reach)))
	if e.Dot.Seq == 0 {
		return e
	}
	for i := range byte(3) {
		if i != a && d.below(2) == 0 {
			e.Past[i] = seen[i] + uint32(d.below(3))/2
		}
	}
	switch d.below(12) {
	case 0:
		e.Who = byte(d.below(9))
	case 1:
		e.Char = 'x'
	}
	return e
}

// P7.2, P2, P6
func TestPutDrawn(t *testing.T) {
	counts := map[api.Errno]int{}
	for seed := range 30 {
		d := drawer(seed)
		b, again, p := causal.New(), causal.New(), plainBuffer{}
		for range 1500 {
			e := d.near(p.seen, 3+seed%10)
			want, wantErr := p.put(e)
			got, err := b.Put(e)
			counts[err]++
			if err != wantErr || !slices.Equal(got, want) {
				t.Fatalf("Put(%v) = %v, %d instead of %v, %d", e, dotsOf(got), err, dotsOf(want), wantErr)
			}
			if l, err := again.Put(e); err != wantErr || !slices.Equal(l, want) {
				t.Fatal("another answer the second time")
			}
			asks(t, b, p.seen, p.waits...)
			if t.Failed() {
				t.FailNow()
			}
		}
	}
	for _, e := range []api.Errno{api.OK, api.ErrForm, api.ErrKnown, api.ErrFork, api.ErrFull} {
		if counts[e] == 0 {
			t.Errorf("no %d was drawn", e)
		}
	}
}

// P3
func TestBufferAnswersAreTheCallers(t *testing.T) {
	b := causal.New()
	put(t, b, told(0, 2))
	put(t, b, told(0, 4))
	spoil := func(l []api.Event) {
		for i := range l[:cap(l)] {
			l[:cap(l)][i] = unlike(told(7, 7))
		}
	}
	spoil(b.Waiting())
	asks(t, b, api.Vector{}, told(0, 2), told(0, 4))
	one, two := b.Waiting(), b.Waiting()
	spoil(one)
	if !slices.Equal(two, []api.Event{told(0, 2), told(0, 4)}) {
		t.Error(two)
	}
	first := put(t, b, told(0, 1))
	spoil(first)
	asks(t, b, api.Vector{2}, told(0, 4))
	second := put(t, b, told(0, 3))
	spoil(first)
	if !slices.Equal(second, []api.Event{told(0, 3), told(0, 4)}) {
		t.Error(second)
	}
	seen := b.Seen()
	seen[0] = 99
	asks(t, b, api.Vector{4})
}

// P4
func TestBufferFork(t *testing.T) {
	b := causal.New()
	put(t, b, told(0, 1))
	put(t, b, told(0, 3))
	put(t, b, told(1, 2))
	f := b.Fork()
	asks(t, f, api.Vector{1}, told(0, 3), told(1, 2))
	// What becomes of the fork.
	put(t, f, told(0, 2))
	put(t, f, told(2, 5))
	asks(t, f, api.Vector{3}, told(1, 2), told(2, 5))
	asks(t, b, api.Vector{1}, told(0, 3), told(1, 2))
	// What becomes of the one that was forked.
	put(t, b, told(1, 1))
	put(t, b, unlike(told(2, 5)))
	asks(t, b, api.Vector{1, 2}, told(0, 3), unlike(told(2, 5)))
	asks(t, f, api.Vector{3}, told(1, 2), told(2, 5))
	refused(t, f, told(2, 5), api.ErrKnown)
	refused(t, b, told(2, 5), api.ErrFork)
	// A fork counts what was answered ahead of it.
	full := causal.New()
	for i := range uint32(api.MaxLog) {
		put(t, full, told(0, i+1))
	}
	refused(t, full.Fork(), told(0, api.MaxLog+1), api.ErrFull)
	if f.Fork() == f {
		t.Error("the same one")
	}
	asks(t, causal.New().Fork(), api.Vector{})
	put(t, causal.New().Fork(), told(0, 1))
}

// P1: events of any kind
func TestPutAnyEvent(t *testing.T) {
	everyEdge(func(e api.Event) {
		if _, err := causal.New().Put(e); (err == api.OK) != plainRight(e) {
			t.Fatal(e, err)
		}
	})
}
