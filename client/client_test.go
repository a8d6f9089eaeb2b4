package client_test

import (
	"bytes"
	"slices"
	"testing"

	"escritoire/api"
	"escritoire/client"
	"escritoire/disk"
)

// P1
func TestNilClient(t *testing.T) {
	var c *client.Client
	for name, do := range map[string]func() ([]byte, api.Errno){
		"Write":        func() ([]byte, api.Errno) { return c.Write(0, 'a') },
		"Erase":        func() ([]byte, api.Errno) { return c.Erase(-1) },
		"Give":         func() ([]byte, api.Errno) { return c.Give(0, api.Writer) },
		"Give of none": func() ([]byte, api.Errno) { return c.Give(8, 9) },
		"Take":         func() ([]byte, api.Errno) { return c.Take(0, api.Key{}) },
		"Snapshot":     func() ([]byte, api.Errno) { return c.Snapshot(0) },
		"Snapshot 8":   func() ([]byte, api.Errno) { return c.Snapshot(8) },
		"Receive":      func() ([]byte, api.Errno) { return nil, c.Receive(nil) },
		"Hear":         func() ([]byte, api.Errno) { return nil, c.Hear(0, nil) },
		"Hear of 8":    func() ([]byte, api.Errno) { return nil, c.Hear(8, make([]byte, 320)) },
	} {
		if b, err := do(); err != api.ErrNil || len(b) != 0 {
			t.Errorf("%s of nil: %v, %d", name, b, err)
		}
	}
	if len(c.Attest()) != 0 || len(c.Text()) != 0 || c.Members() != ([api.Authors]api.Role{}) || c.Vector() != (api.Vector{}) || len(c.Events()) != 0 {
		t.Error("a nil client tells something")
	}
	if len(c.Proofs()) != 0 || c.Heads() != ([api.Authors]api.Head{}) || len(c.Log()) != 0 || c.Disk() != nil || c.Own() != 0 || c.Fork() != nil {
		t.Error("a nil client has something")
	}
}

// P15.1
func TestNew(t *testing.T) {
	for own := range byte(8) {
		c := client.New(own, seed)
		want := state{own: own, members: [api.Authors]api.Role{api.Admin}}
		if own == 0 {
			k := first0()
			want.epochs, want.keys = []api.Dot{{}}, []api.Key{k}
		}
		if got := stateOf(c); !got.alike(want) {
			t.Errorf("New(%d): %v", own, got)
		}
	}
	for _, own := range []byte{8, 9, 128, 255} {
		if client.New(own, seed) != nil {
			t.Errorf("New(%d) is one", own)
		}
	}
}

// first0 is the key of the first epoch.
func first0() api.Key {
	k, _ := client.New(0, seed).Ring().Key(api.Dot{})
	return k
}

// The chapter's example.
func TestChapterExample(t *testing.T) {
	a, b := client.New(0, seed), client.New(1, seed)
	wrote := done(t)(a.Write(0, 'a'))
	gave := done(t)(a.Give(1, api.Writer))
	// The frame that was sealed ahead of the grant waits for the key, which the frame behind it has, so both come by a snapshot.
	refuses(t, "without the key", b, wrote, api.ErrKey)
	refuses(t, "behind a gap", b, gave, api.ErrGap)
	b, err := client.Restore(1, seed, 0, done(t)(a.Snapshot(1)))
	asks(t, "Restore", err, api.OK)
	asksText(t, b, "a")
	asksEpochs(t, b, api.Dot{})
	refuses(t, "known", b, gave, api.ErrKnown)
}

// The key that a grant's frame has opens it, and what comes behind it.
func TestGrantHasItsKey(t *testing.T) {
	a, b := two(t, 1, api.Writer)
	asksEpochs(t, b, api.Dot{})
	receives(t, b, done(t)(a.Write(0, 'a')))
	asksText(t, b, "a")
	receives(t, a, done(t)(b.Write(1, 'b')))
	asksText(t, a, "ab")
	if a.Members() != b.Members() || a.Vector() != b.Vector() || a.Heads() != b.Heads() {
		t.Error("who has the same is not the same")
	}
}

// P3: of what is answered and handed in nothing is kept.
func TestAnswersAreTheCallers(t *testing.T) {
	a, b := two(t, 1, api.Writer)
	wrote := done(t)(a.Write(0, 'a'))
	given, all := roomed(wrote)
	copied := slices.Clone(all)
	receives(t, b, given)
	if !bytes.Equal(all, copied) {
		t.Error("Receive has changed what it was handed")
	}
	// Two forks of one author, so that there is a proof.
	h := handOf(t, 0)
	asks(t, "fork", b.Receive(h.says(first('z'))), api.ErrFork)
	wasA, wasB := stateOf(a), stateOf(b)
	snapshot := done(t)(a.Snapshot(1))
	for _, l := range [][]byte{wrote, all, a.Text(), b.Text(), a.Attest(), b.Attest(), snapshot, a.Disk().Bytes()} {
		scribble(l)
	}
	for _, c := range []*client.Client{a, b} {
		for _, l := range c.Log() {
			scribble(l)
		}
		clear(c.Log())
		clear(c.Events())
		clear(c.Proofs())
		d := c.Disk()
		d.Write([]byte("more"))
		d.Sync()
	}
	if !stateOf(a).alike(wasA) || !stateOf(b).alike(wasB) {
		t.Error("what was answered or handed in is kept")
	}
	if again := done(t)(a.Snapshot(1)); bytes.Equal(again, snapshot) {
		t.Error("a snapshot is answered twice in one place")
	}
}

func scribble(l []byte) {
	l = l[:cap(l)]
	for i := range l {
		l[i] ^= 0x55
	}
}

// What lies in a log does not lie in another answer of it.
func TestLogTwice(t *testing.T) {
	a, _ := two(t, 1, api.Writer)
	l, again := a.Log(), a.Log()
	scribble(l[0])
	if bytes.Equal(l[0], again[0]) {
		t.Error("two logs lie in one place")
	}
}

// P4
func TestFork(t *testing.T) {
	a, b := two(t, 1, api.Writer)
	done(t)(a.Write(0, 'a'))
	deeds := map[string]func(c *client.Client){
		"Write":   func(c *client.Client) { done(t)(c.Write(0, 'x')) },
		"Erase":   func(c *client.Client) { done(t)(c.Erase(0)) },
		"Give":    func(c *client.Client) { done(t)(c.Give(2, api.Admin)) },
		"Take":    func(c *client.Client) { done(t)(c.Take(1, api.Key{3})) },
		"Receive": func(c *client.Client) { receives(t, c, done(t)(b.Fork().Write(0, 'b'))) },
		"a fork": func(c *client.Client) {
			h := handOf(t, 1)
			receives(t, c, done(t)(b.Fork().Write(0, 'b')))
			asks(t, "fork", c.Receive(h.says(first('c'))), api.ErrFork)
		},
	}
	for name, do := range deeds {
		was := stateOf(a)
		f := a.Fork()
		if !stateOf(f).alike(was) {
			t.Fatalf("%s: a Fork is another one", name)
		}
		do(f)
		if !stateOf(a).alike(was) {
			t.Errorf("%s of a Fork changes the client", name)
		}
		if stateOf(f).alike(was) {
			t.Errorf("%s changes nothing", name)
		}
		c := a.Fork()
		f = c.Fork()
		do(c)
		if !stateOf(f).alike(was) {
			t.Errorf("%s of a client changes its Fork", name)
		}
		// Both go on, one behind the other: neither takes the other one's room.
		f, g := a.Fork(), a.Fork()
		done(t)(f.Write(0, 'f'))
		wasF := stateOf(f)
		do(g)
		if !stateOf(f).alike(wasF) {
			t.Errorf("%s of a Fork changes another one", name)
		}
	}
}

// P4, however much room there is behind a log.
func TestForksOfAnyLength(t *testing.T) {
	a := client.New(0, seed)
	for range 20 {
		done(t)(a.Write(0, 'a'))
		f, g := a.Fork(), a.Fork()
		done(t)(f.Write(0, 'f'))
		was := stateOf(f)
		done(t)(g.Write(0, 'g'))
		done(t)(a.Fork().Erase(0))
		if !stateOf(f).alike(was) {
			t.Fatalf("a Fork of %d frames changes another one", len(a.Log()))
		}
	}
}

// What a disk holds is its own, behind a Load as well.
func TestLoadForksTheDisk(t *testing.T) {
	a, _ := two(t, 1, api.Writer)
	d := a.Disk()
	d.Write([]byte{0, 1, 2})
	was, synced := d.Bytes(), d.Synced()
	l := client.Load(0, seed, d)
	done(t)(l.Write(0, 'l'))
	if !bytes.Equal(d.Bytes(), was) || d.Synced() != synced {
		t.Error("Load, or what came behind it, has changed the disk that was handed in")
	}
	s := stateOf(l)
	d.Write([]byte("more"))
	d.Trim()
	if !stateOf(l).alike(s) {
		t.Error("the disk that was handed in is kept")
	}
	if client.Load(0, seed, nil) != nil || client.Load(8, seed, d) != nil || client.Load(255, seed, disk.New()) != nil || client.Load(9, seed, nil) != nil {
		t.Error("Load of what may not be")
	}
	if c := client.Load(7, seed, disk.New()); c == nil || !stateOf(c).alike(stateOf(client.New(7, seed))) {
		t.Error("Load of an empty disk")
	}
}
