package world_test

import (
	"bytes"
	"slices"
	"testing"

	"escritoire/acl"
	"escritoire/api"
	"escritoire/client"
	"escritoire/doc"
	"escritoire/world"
)

// plain is the chapter's words once more, with clients.
type plain struct {
	clients [api.Authors]*client.Client
	frames  [][]byte
}

func newPlain() *plain {
	p := &plain{}
	for who := range p.clients {
		p.clients[who] = client.New(byte(who), seed)
	}
	return p
}

func (p *plain) step(s world.Step) api.Errno {
	if s.Who > 7 || s.Other > 7 {
		return api.ErrRange
	}
	c, other := p.clients[s.Who], p.clients[s.Other]
	var b []byte
	var err api.Errno
	switch s.Do {
	case world.Write:
		b, err = c.Write(s.I, s.X)
	case world.Erase:
		b, err = c.Erase(s.I)
	case world.Give:
		b, err = c.Give(s.Other, s.Role)
	case world.Take:
		b, err = c.Take(s.Other, s.Draw)
	case world.Deliver:
		if s.I < 0 || s.I >= len(p.frames) {
			return api.ErrRange
		}
		return c.Receive(p.frames[s.I])
	case world.Inject:
		return c.Receive(s.Bytes)
	case world.Attest:
		return c.Hear(s.Other, other.Attest())
	case world.Snapshot:
		return p.snapshot(s)
	case world.Power:
		return p.power(s)
	default:
		return api.ErrRange
	}
	if err == api.OK {
		p.frames = append(p.frames, b)
	}
	return err
}

func (p *plain) snapshot(s world.Step) api.Errno {
	for i, n := range p.clients[s.Who].Vector() {
		if n > p.clients[s.Other].Vector()[i] {
			return api.ErrRange
		}
	}
	b, err := p.clients[s.Other].Snapshot(s.Who)
	if err != api.OK {
		return err
	}
	c, err := client.Restore(s.Who, seed, s.Other, b)
	if err == api.OK {
		p.clients[s.Who] = c
	}
	return err
}

func (p *plain) power(s world.Step) api.Errno {
	if s.Keep < 0 {
		return api.ErrRange
	}
	c := p.clients[s.Who]
	b, err := c.Fork().Write(s.I, s.X)
	if err != api.OK {
		return err
	}
	d := c.Disk()
	d.Write(slices.Concat([]byte{0}, b))
	d.Power(s.Keep)
	p.clients[s.Who] = client.Load(s.Who, seed, d)
	if l := p.clients[s.Who].Log(); len(l) > 0 && bytes.Equal(l[len(l)-1], b) {
		p.frames = append(p.frames, b)
		return api.OK
	}
	return api.ErrNone
}

func (p *plain) state() state {
	s := state{relay: append([][]byte{}, p.frames...)}
	for who, c := range p.clients {
		s.clients[who] = knownOf(c)
	}
	return s
}

// drawn is a step by one of the first few members; honest ones inject nothing.
func drawn(d *drawer, w *world.World, honest bool) world.Step {
	const members = 4
	s := world.Step{
		Do: deeds[d.below(len(deeds))], Who: byte(d.below(members)), Other: byte(d.below(members)),
		I: d.below(8) - 1, Keep: []int{-1, 0, 9, 100, 233, 234, 235, 1000}[d.below(8)],
		X: byte(d.below(26)) + 'a', Role: api.Role(d.below(4)), Draw: api.Key{byte(d.below(256))},
	}
	frames := w.Relay()
	if d.below(2) == 0 && len(frames) > 0 {
		s.Do = world.Deliver
		s.I = d.below(len(frames))
		// Mostly one that is missing.
		for i, b := range frames {
			if d.below(3) != 0 && b[2] != s.Who && uint32(b[6]) == w.Vector(s.Who)[b[2]&7]+1 {
				s.I = i
				break
			}
		}
	}
	if s.Do == world.Inject {
		if honest {
			s.Do = world.Attest
			return s
		}
		s.Bytes = injected(d, w, frames)
	}
	if d.below(60) == 0 {
		s.Who = 8
	}
	if d.below(60) == 0 {
		s.Do = world.Do(d.below(20) - 5)
	}
	return s
}

// injected is a frame with a byte changed, or of another world in which the same members did otherwise, so that its tags are right.
func injected(d *drawer, w *world.World, frames [][]byte) []byte {
	if d.below(3) == 0 && len(frames) > 0 {
		b := slices.Clone(frames[d.below(len(frames))])
		b[d.below(len(b))]++
		return b
	}
	f := w.Fork()
	for range 1 + d.below(3) {
		f.Step(world.Step{Do: deeds[d.below(4)], Who: byte(d.below(4)), Other: byte(d.below(4)), X: '!', Role: api.Role(1 + d.below(3)), Draw: api.Key{9}})
	}
	l := f.Relay()
	if len(l) == 0 {
		return nil
	}
	return l[len(l)-1]
}

// begun is a world, and a plain one, in which member 0 has given others their roles.
func begun(t *testing.T, d *drawer) (*world.World, *plain) {
	t.Helper()
	w, p := world.New(seed), newPlain()
	for who := byte(1); who < 4; who++ {
		for _, s := range []world.Step{given(0, who, api.Role(1+(d.below(8)+1)%3)), snapped(who, 0)} {
			does(t, w, s, p.step(s))
		}
	}
	return w, p
}

// asksOneText asks of clients that have kept the same events for the same text and members, in whatever order they came.
func asksOneText(t *testing.T, w *world.World) {
	t.Helper()
	for a := range byte(4) {
		for b := range a {
			if !slices.Equal(sorted(w.Events(a)), sorted(w.Events(b))) {
				continue
			}
			if !bytes.Equal(w.Text(a), w.Text(b)) || w.Members(a) != w.Members(b) || w.Vector(a) != w.Vector(b) {
				t.Fatalf("texts %q and %q, members %v and %v of the same events", w.Text(a), w.Text(b), w.Members(a), w.Members(b))
			}
		}
	}
}

func sorted(l []api.Event) []api.Event {
	slices.SortFunc(l, func(a, b api.Event) int {
		if a.Dot.Author != b.Dot.Author {
			return int(a.Dot.Author) - int(b.Dot.Author)
		}
		return int(a.Dot.Seq) - int(b.Dot.Seq)
	})
	return l
}

// asksAllowed asks that what has force was allowed to its author by what it had seen, and that nothing else is in the text.
func asksAllowed(t *testing.T, w *world.World) {
	t.Helper()
	for who := range byte(4) {
		d, book := doc.New(), acl.New()
		for _, e := range w.Events(who) {
			least := api.Writer
			if e.Kind == api.Grant || e.Kind == api.Revoke {
				least = api.Admin
			}
			may := book.Role(e.Dot.Author, e.Past) >= least
			text, members := d.Text(), d.Members()
			if err := d.Apply(e); err != api.OK {
				t.Fatalf("an event that was kept can't be applied: %d", err)
			}
			if d.Force(e.Dot) && !may {
				t.Fatalf("%v has force", e)
			}
			if !may && (!bytes.Equal(d.Text(), text) || d.Members() != members) {
				t.Fatalf("%v has changed something", e)
			}
			if may && least == api.Admin {
				book.Add(e)
			}
		}
		if !bytes.Equal(d.Text(), w.Text(who)) || d.Members() != w.Members(who) {
			t.Fatal("the text is not that of the events")
		}
	}
}

// P16.1 to P16.3, P16.7, E1 to E3, E7: with draws that are the same every time, where some forge.
func TestAgainstTheWords(t *testing.T) {
	errs := map[world.Do]map[api.Errno]int{}
	for run := range 30 {
		d := drawer(run + 1)
		w, p := begun(t, &d)
		for range 120 {
			s := drawn(&d, w, false)
			was := stateOf(w)
			err := w.Step(s)
			if want := p.step(s); err != want {
				t.Fatalf("step %v: error %d instead of %d", s, err, want)
			}
			if errs[s.Do] == nil {
				errs[s.Do] = map[api.Errno]int{}
			}
			errs[s.Do][err]++
			now := stateOf(w)
			if !now.alike(p.state()) {
				t.Fatalf("step %v: the world is another one", s)
			}
			if err != api.OK {
				for who := range now.clients {
					now.clients[who].proofs, was.clients[who].proofs = nil, nil
				}
				if !now.alike(was) {
					t.Fatalf("step %v, with error %d, has changed more than proofs", s, err)
				}
			}
		}
		asksOneText(t, w)
		asksAllowed(t, w)
	}
	for _, x := range []struct {
		do  world.Do
		err api.Errno
	}{
		{world.Write, api.OK}, {world.Erase, api.OK}, {world.Give, api.OK}, {world.Take, api.OK}, {world.Deliver, api.OK},
		{world.Inject, api.OK}, {world.Attest, api.OK}, {world.Snapshot, api.OK}, {world.Power, api.OK}, {world.Power, api.ErrNone},
		{world.Inject, api.ErrFork}, {world.Inject, api.ErrTag}, {world.Attest, api.ErrFork}, {world.Snapshot, api.ErrRange},
		{world.Deliver, api.ErrFork}, {world.Deliver, api.ErrKey}, {world.Deliver, api.ErrGap},
	} {
		if errs[x.do][x.err] == 0 {
			t.Errorf("error %d of %d never came up", x.err, x.do)
		}
	}
}

// P16.3, P16.4, P16.5, E2, E4, E5: where nothing is injected nothing is noted, and nothing that was answered gets lost.
func TestHonestWorlds(t *testing.T) {
	for run := range 30 {
		d := drawer(run + 1000)
		w, p := begun(t, &d)
		for range 120 {
			s := drawn(&d, w, true)
			was, before := stateOf(w), w.Fork()
			err := w.Step(s)
			if want := p.step(s); err != want {
				t.Fatalf("step %v: error %d instead of %d", s, err, want)
			}
			if err != api.OK && !stateOf(w).alike(was) {
				t.Fatalf("step %v, with error %d, has changed something", s, err)
			}
			if s.Do == world.Power && err == api.OK {
				does(t, before, written(s.Who, s.I, s.X), api.OK)
				if !stateOf(before).alike(stateOf(w)) {
					t.Fatal("behind a Power the client is not as behind the write")
				}
			}
			asksOneText(t, w)
		}
		for who := range byte(8) {
			if l := w.Proofs(who); len(l) != 0 {
				t.Fatalf("noted %v", l)
			}
		}
		asksTold(t, w)
		asksAllowed(t, w)
	}
}

// asksTold asks that who made a frame has kept it, and that those that can hear of all of them come to one text.
func asksTold(t *testing.T, w *world.World) {
	t.Helper()
	frames := w.Relay()
	for _, b := range frames {
		if author := b[2]; uint32(b[6]) > w.Vector(author)[author] {
			t.Fatal("what was answered is lost")
		}
	}
	for range frames {
		for i := range frames {
			for who := range byte(4) {
				w.Step(delivered(who, i))
			}
		}
	}
	asksOneText(t, w)
}
