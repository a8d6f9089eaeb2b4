package client_test

import (
	"bytes"
	"slices"
	"testing"

	"escritoire/api"
	"escritoire/chain"
	"escritoire/client"
	"escritoire/doc"
	"escritoire/frame"
	"escritoire/keys"
	"escritoire/mac"
	"escritoire/wire"
)

// plain is the chapter's words once more: a client is its records and its proofs, which are gone through anew for each question.
type plain struct {
	own     byte
	records [][]byte
	proofs  []api.Proof
}

// told is what a plain client's records tell.
type told struct {
	ring  *keys.Ring
	doc   *doc.Doc
	chain *chain.Chain
	log   [][]byte
}

func (p *plain) told() told {
	r := told{ring: keys.New(p.own, seed), doc: doc.New(), chain: chain.New()}
	for _, b := range p.records {
		if b[0] == 2 {
			r.ring.Add(dot(b[1], uint32(b[2])<<24|uint32(b[3])<<16|uint32(b[4])<<8|uint32(b[5])), api.Key(b[6:]))
			continue
		}
		bytesOf := b[1:]
		if b[0] == 1 {
			bytesOf = b[33:]
		}
		f, _ := wire.ReadFrame(bytesOf)
		wide := p.wide(r.ring, f)
		e, _ := frame.Open(wide, f)
		r.doc.Apply(e)
		r.chain.Add(f)
		r.log = append(r.log, bytesOf)
		if r.strong(e) {
			r.ring = wide
		}
		if b[0] == 1 {
			r.ring.Add(e.Dot, api.Key(b[1:33]))
		}
	}
	return r
}

// wide is a ring with the wraps for oneself.
func (p *plain) wide(r *keys.Ring, f api.Frame) *keys.Ring {
	r = r.Fork()
	for _, w := range f.Wraps {
		if w.To == p.own && f.Author != p.own {
			r.Unwrap(f.Author, w)
		}
	}
	return r
}

func (r told) strong(e api.Event) bool {
	return r.doc.Force(e.Dot) && (e.Kind == api.Grant || e.Kind == api.Revoke)
}

func (p *plain) note(l ...api.Proof) {
	for _, x := range l {
		if !slices.Contains(p.proofs, x) && len(p.proofs) < api.MaxProof {
			p.proofs = append(p.proofs, x)
		}
	}
}

func (p *plain) store(r []byte) api.Errno {
	size := 10 + len(r)
	for _, x := range p.records {
		size += 10 + len(x)
	}
	if size > api.MaxDisk {
		return api.ErrFull
	}
	p.records = append(p.records, r)
	return api.OK
}

func (p *plain) receive(b []byte) api.Errno {
	r := p.told()
	f, err := wire.ReadFrame(b)
	if err != api.OK {
		return err
	}
	if err := frame.Check(r.ring, f); err != api.OK {
		return err
	}
	if f.Author == p.own {
		return api.ErrOwn
	}
	if err := r.chain.Look(f); err != api.OK {
		r.chain.Add(f)
		p.note(r.chain.Proofs()...)
		return err
	}
	e, err := frame.Open(p.wide(r.ring, f), f)
	if err != api.OK {
		return err
	}
	if err := r.doc.Apply(e); err != api.OK {
		return err
	}
	if !r.ring.Has(f.Epoch) && !r.strong(e) {
		return api.ErrKey
	}
	return p.store(slices.Concat([]byte{0}, b))
}

func (p *plain) hear(from byte, b []byte) api.Errno {
	r := p.told()
	if from > 7 {
		return api.ErrRange
	}
	if from == p.own {
		return api.ErrOwn
	}
	if len(b) != 320 {
		return api.ErrForm
	}
	k := r.ring.MacKey(from)
	if tag := mac.Hmac(k[:], b[:288]); !bytes.Equal(tag[:], b[288:]) {
		return api.ErrTag
	}
	heads, _ := wire.ReadHeads(b[:288])
	found := r.chain.Compare(heads)
	p.note(found...)
	if len(found) > 0 {
		return api.ErrFork
	}
	return api.OK
}

// edit is Write, Erase, Give or Take; who of the last two is about another one, and draw of the last one.
func (p *plain) edit(kind api.Kind, i int, x, who byte, role api.Role, draw api.Key) ([]byte, api.Errno) {
	r := p.told()
	if (kind == api.Grant || kind == api.Revoke) && who == p.own {
		return nil, api.ErrOwn
	}
	var e api.Event
	var err api.Errno
	switch kind {
	case api.Insert:
		e, err = r.doc.Write(p.own, i, x)
	case api.Delete:
		e, err = r.doc.Erase(p.own, i)
	case api.Grant:
		e, err = r.doc.Give(p.own, who, role)
	case api.Revoke:
		e, err = r.doc.Take(p.own, who)
	}
	if err != api.OK {
		return nil, err
	}
	epoch, there := r.ring.Now()
	if !there {
		return nil, api.ErrKey
	}
	r.doc.Apply(e)
	var wraps []api.Wrap
	record := []byte{0}
	if kind == api.Grant {
		for _, epoch := range r.ring.Epochs() {
			w, _ := r.ring.Wrap(who, epoch)
			wraps = append(wraps, w)
		}
	}
	if kind == api.Revoke {
		if err := r.ring.Add(e.Dot, draw); err != api.OK {
			return nil, err
		}
		for to := range byte(8) {
			if to != p.own && r.doc.Members()[to] != api.NoRole {
				w, _ := r.ring.Wrap(to, e.Dot)
				wraps = append(wraps, w)
			}
		}
		record = slices.Concat([]byte{1}, draw[:])
	}
	head := r.chain.Heads()[p.own]
	f, err := frame.Seal(r.ring, head.Count+1, head.Sum, epoch, wraps, e)
	if err != api.OK {
		return nil, err
	}
	b, _ := wire.Frame(f)
	if err := p.store(slices.Concat(record, b)); err != api.OK {
		return nil, err
	}
	return b, api.OK
}

func (p *plain) snapshot(to byte) ([]byte, api.Errno) {
	r := p.told()
	if to == p.own {
		return nil, api.ErrOwn
	}
	if r.doc.Members()[to] == api.NoRole {
		return nil, api.ErrRole
	}
	var epochs [][]byte
	for _, epoch := range r.ring.Epochs() {
		k, _ := r.ring.Key(epoch)
		epochs = append(epochs, epochOf(epoch, k))
	}
	return snapshotOf(p.own, to, uint32(len(r.log)), laid(epochs, r.log)), api.OK
}

// restore is a plain client with what another one has: nothing is looked at, since all of it is honest.
func (p *plain) restore(other *plain) {
	r := other.told()
	p.records, p.proofs = nil, nil
	for _, epoch := range r.ring.Epochs() {
		k, _ := r.ring.Key(epoch)
		p.records = append(p.records, epochRecord(epoch, k))
	}
	for _, b := range r.log {
		p.records = append(p.records, frameRecord(b))
	}
}

func (p *plain) state(t *testing.T) state {
	r := p.told()
	d := recordsOn(t, p.records...)
	s := state{
		own: p.own, text: string(r.doc.Text()), members: r.doc.Members(), vector: r.doc.Vector(), events: r.doc.Events(),
		proofs: p.proofs, heads: r.chain.Heads(), log: r.log, disk: d.Bytes(), synced: len(d.Bytes()),
		epochs: r.ring.Epochs(),
	}
	for _, epoch := range s.epochs {
		k, _ := r.ring.Key(epoch)
		s.keys = append(s.keys, k)
	}
	return s
}

// play is some clients with a relay, each beside a plain one.
type play struct {
	t       *testing.T
	draw    drawer
	clients []*client.Client
	plain   []*plain
	relay   [][]byte
	errs    map[api.Errno]int
	honest  bool
}

func newPlay(t *testing.T, start uint64, n byte, honest bool) *play {
	g := &play{t: t, draw: drawer(start), errs: map[api.Errno]int{}, honest: honest}
	for own := range n {
		g.clients = append(g.clients, client.New(own, seed))
		g.plain = append(g.plain, &plain{own: own})
	}
	return g
}

// begin has member 0 give all others roles that differ from play to play; they begin by snapshots.
func (g *play) begin() *play {
	g.t.Helper()
	for i := 1; i < len(g.clients); i++ {
		who, role := byte(i), api.Role(1+(g.draw.below(6)+1)%3)
		b := done(g.t)(g.clients[0].Give(who, role))
		g.plain[0].edit(api.Grant, 0, 0, who, role, api.Key{})
		g.relay = append(g.relay, b)
	}
	for i := 1; i < len(g.clients); i++ {
		c, err := client.Restore(byte(i), seed, 0, done(g.t)(g.clients[0].Snapshot(byte(i))))
		asks(g.t, "Restore", err, api.OK)
		g.clients[i] = c
		g.plain[i].restore(g.plain[0])
		g.same(i)
	}
	return g
}

// forged are a frame's bytes that some author might make that keeps to few rules.
func (g *play) forged() []byte {
	author := byte(g.draw.below(len(g.clients) + 1))
	saw := g.clients[g.draw.below(len(g.clients))]
	h := handOf(g.t, author, dot(0, 2), dot(1, 1), dot(2, 3), dot(author, 4))
	for _, epoch := range saw.Ring().Epochs() {
		k, _ := saw.Ring().Key(epoch)
		h.ring.Add(epoch, k)
	}
	h.last = saw.Heads()[author]
	if g.draw.below(8) == 0 && h.last.Count > 0 {
		h.last.Count--
	}
	if h.last.Count >= api.MaxBatch {
		return nil
	}
	l := []api.Event{
		first('x'), insert(dot(0, 1), g.draw.below(2) == 0, 'y'), {Kind: api.Delete, Parent: dot(0, 1)},
		grant(byte(g.draw.below(5)), api.Role(1+g.draw.below(3))), revoke(byte(g.draw.below(5))),
	}
	past := saw.Vector()
	if g.draw.below(6) == 0 {
		past[g.draw.below(4)]++
	}
	e := h.event(l[g.draw.below(len(l))], past[:]...)
	epochs := h.ring.Epochs()
	epoch := epochs[g.draw.below(len(epochs))]
	var wraps []api.Wrap
	for range g.draw.below(4) {
		if to := byte(g.draw.below(5)); to != author {
			wraps = append(wraps, h.wrap(to, epochs[g.draw.below(len(epochs))]))
		}
	}
	f, err := frame.Seal(h.ring, h.last.Count+1, h.last.Sum, epoch, wraps, e)
	if err != api.OK {
		return nil
	}
	return bytesOf(g.t, f)
}

// step does something to a client and to the plain one beside it, and asks for the same of both.
func (g *play) step() {
	g.t.Helper()
	i := g.draw.below(len(g.clients))
	c, p := g.clients[i], g.plain[i]
	n, x, who := g.draw.below(6)-1, byte(g.draw.below(26))+'a', byte(g.draw.below(len(g.clients)+1))
	role, key := api.Role(1+g.draw.below(3)), api.Key{byte(g.draw.below(256)), 1}
	var got, want api.Errno
	kinds := map[int]api.Kind{0: api.Insert, 1: api.Insert, 2: api.Delete, 3: api.Grant, 4: api.Revoke}
	switch what := g.draw.below(22); {
	case what < 5:
		kind := kinds[what]
		var b, w []byte
		switch kind {
		case api.Insert:
			b, got = c.Write(n, x)
		case api.Delete:
			b, got = c.Erase(n)
		case api.Grant:
			b, got = c.Give(who, role)
		case api.Revoke:
			b, got = c.Take(who, key)
		}
		w, want = p.edit(kind, n, x, who, role, key)
		if !bytes.Equal(b, w) {
			g.t.Fatalf("the frame of an edit is %x instead of %x", b, w)
		}
		if got == api.OK {
			g.relay = append(g.relay, b)
		}
	case what < 16:
		if len(g.relay) == 0 {
			return
		}
		// Mostly those that are next.
		b := g.relay[g.draw.below(len(g.relay))]
		for _, next := range g.relay {
			f := frameOf(g.t, next)
			if g.draw.below(4) != 0 && f.Number == c.Heads()[f.Author].Count+1 {
				b = next
				break
			}
		}
		got, want = c.Receive(b), p.receive(b)
	case what < 18:
		from := byte(g.draw.below(len(g.clients)))
		b := g.clients[from].Attest()
		got, want = c.Hear(from, b), p.hear(from, b)
	case what < 19:
		g.snapshots(c, byte(i))
		return
	default:
		if g.honest {
			return
		}
		b := g.forged()
		if b != nil && g.draw.below(6) == 0 {
			b[g.draw.below(len(b))]++
		}
		got, want = c.Receive(b), p.receive(b)
		if got == api.OK {
			g.relay = append(g.relay, b)
		}
	}
	g.errs[got]++
	if got != want {
		g.t.Fatalf("error %d instead of %d", got, want)
	}
	g.same(i)
}

// snapshots has a client begin anew from another one's snapshot, if that has all that it has.
func (g *play) snapshots(c *client.Client, own byte) {
	g.t.Helper()
	from := g.draw.below(len(g.clients))
	other := g.clients[from]
	b, err := other.Snapshot(own)
	w, want := g.plain[from].snapshot(own)
	if err != want || !bytes.Equal(b, w) {
		g.t.Fatalf("Snapshot: error %d instead of %d", err, want)
	}
	for author, n := range c.Vector() {
		if err != api.OK || n > other.Vector()[author] {
			return
		}
	}
	r, err := client.Restore(own, seed, byte(from), b)
	if own == 0 && !other.Ring().Has(api.Dot{}) || err == api.ErrForm && !g.honest {
		return
	}
	if err != api.OK {
		g.t.Fatalf("Restore: error %d", err)
	}
	g.clients[own] = r
	g.plain[own].restore(g.plain[from])
	g.same(int(own))
	if s := stateOf(r); s.text != string(other.Text()) || s.members != other.Members() || s.vector != other.Vector() {
		g.t.Fatal("what was restored is another one")
	}
}

// same asks that a client is as the plain one beside it, and as Load of its disk but for proofs.
func (g *play) same(i int) {
	g.t.Helper()
	s, want := stateOf(g.clients[i]), g.plain[i].state(g.t)
	if !s.alike(want) {
		g.t.Fatalf("a client is\n%v instead of\n%v", s, want)
	}
	l := stateOf(client.Load(byte(i), seed, g.clients[i].Disk()))
	s.proofs = nil
	if !l.alike(s) {
		g.t.Fatal("Load of Disk is not the client")
	}
}

// oneText asks of all that have kept the same events, which their heads tell, for the same text and members.
func (g *play) oneText() {
	g.t.Helper()
	for _, a := range g.clients {
		for _, b := range g.clients {
			if a.Heads() == b.Heads() && (string(a.Text()) != string(b.Text()) || a.Members() != b.Members()) {
				g.t.Fatalf("texts %q and %q of the same events", a.Text(), b.Text())
			}
		}
	}
}

// P15.2 to P15.10, with draws that are the same every time, where some forge.
func TestAgainstTheWords(t *testing.T) {
	errs := map[api.Errno]int{}
	for run := range 24 {
		g := newPlay(t, uint64(run)+1, 4, false)
		if run%4 != 0 {
			g.begin()
		}
		for range 150 {
			g.step()
			g.oneText()
		}
		for err, n := range g.errs {
			errs[err] += n
		}
	}
	for _, err := range []api.Errno{api.OK, api.ErrRange, api.ErrForm, api.ErrTag, api.ErrKnown, api.ErrGap, api.ErrRole, api.ErrKey, api.ErrFork, api.ErrOwn} {
		if errs[err] == 0 {
			t.Errorf("error %d never came up", err)
		}
	}
}

// E4: where all are honest nothing is noted, and all that hear of everything have one text.
func TestHonestPlay(t *testing.T) {
	texts := 0
	for run := range 25 {
		g := newPlay(t, uint64(run)+1000, 3, true).begin()
		for range 150 {
			g.step()
			g.oneText()
		}
		for _, c := range g.clients {
			if l := c.Proofs(); len(l) != 0 {
				t.Fatalf("noted %v", l)
			}
			texts += len(c.Text())
		}
	}
	if texts == 0 {
		t.Error("nothing was ever written")
	}
}
