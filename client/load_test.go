package client_test

import (
	"bytes"
	"slices"
	"testing"

	"escritoire/api"
	"escritoire/client"
	"escritoire/disk"
)

// loads asks that Load of records is a client that has taken so many of them, and that the disk has them all.
func loads(t *testing.T, what string, own byte, taken int, l ...[]byte) *client.Client {
	t.Helper()
	d := recordsOn(t, l...)
	c := client.Load(own, seed, d)
	want := client.Load(own, seed, recordsOn(t, l[:taken]...))
	got, w := stateOf(c), stateOf(want)
	if !bytes.Equal(got.disk, d.Bytes()) || got.synced != len(got.disk) {
		t.Errorf("%s: the disk is another one", what)
	}
	got.disk, got.synced = w.disk, w.synced
	if !got.alike(w) {
		t.Errorf("%s: has not taken the first %d alone: text %q, %d frames, epochs %v", what, taken, c.Text(), len(c.Log()), c.Ring().Epochs())
	}
	return c
}

// P15.5: records of each kind.
func TestLoadOfEachKind(t *testing.T) {
	a := client.New(0, seed)
	draw := drawOf(dot(0, 3))
	l := [][]byte{frameRecord(done(t)(a.Write(0, 'a'))), frameRecord(done(t)(a.Give(1, api.Writer)))}
	l = append(l, drawRecord(draw, done(t)(a.Take(1, draw))), frameRecord(done(t)(a.Write(1, 'b'))))
	if !slices.EqualFunc(a.Disk().Records(), l, bytes.Equal) {
		t.Error("the disk has other records")
	}
	c := loads(t, "all of them", 0, 4, l...)
	if !stateOf(c).alike(stateOf(a)) {
		t.Error("Load of Disk is not the client")
	}
	for n := range l {
		d := client.Load(0, seed, recordsOn(t, l[:n]...))
		if len(d.Log()) != n || int(d.Vector()[0]) != n {
			t.Errorf("of %d records %d frames", n, len(d.Log()))
		}
	}
	// The third kind has the keys of what another one has sealed.
	first := epochRecord(api.Dot{}, first0())
	second := epochRecord(dot(0, 3), draw)
	plainly := []byte{0}
	b := loads(t, "another one's", 1, 6, first, second, l[0], l[1], slices.Concat(plainly, l[2][33:]), l[3])
	asksText(t, b, "ab")
	asksEpochs(t, b, api.Dot{}, dot(0, 3))
	loads(t, "without a key", 1, 0, l[0])
	loads(t, "without the second key", 1, 4, first, l[0], l[1], slices.Concat(plainly, l[2][33:]), l[3])
	// A frame of one's own that began an epoch may be of the first kind, too.
	loads(t, "one's own", 0, 3, l[0], l[1], slices.Concat(plainly, l[2][33:]), l[3])
}

// P15.5: records that can't be, and what stands behind them.
func TestLoadOfWhatCantBe(t *testing.T) {
	a, b := two(t, 1, api.Admin)
	gave := a.Log()[0]
	wrote := done(t)(a.Write(0, 'a'))
	again := done(t)(a.Write(1, 'b'))
	receives(t, b, wrote)
	took := done(t)(b.Take(3, api.Key{3}))
	wrong := slices.Clone(again)
	wrong[len(wrong)-1]++
	h := handOf(t, 0)
	fork := h.says(first('x'))
	k := api.Key{5}
	e := epochRecord(dot(5, 5), k)
	for _, x := range []struct {
		what  string
		wrong []byte
	}{
		{"an empty record", nil},
		{"a kind that there is not", []byte{3}},
		{"a kind that there is not, with a frame", slices.Concat([]byte{3}, again)},
		{"kind 255", slices.Concat([]byte{255}, again)},
		{"the first kind of nothing", []byte{0}},
		{"the first kind of no frame", frameRecord([]byte("no frame"))},
		{"a frame that goes on", frameRecord(append(slices.Clone(again), 0))},
		{"a wrong tag", frameRecord(wrong)},
		{"a known one", frameRecord(wrote)},
		{"a fork", frameRecord(fork)},
		{"the second kind of nothing", []byte{1}},
		{"the second kind of half a key", append([]byte{1}, k[:31]...)},
		{"the second kind of a key alone", append([]byte{1}, k[:]...)},
		{"the second kind, which is not one's own", drawRecord(k, again)},
		{"the third kind of nothing", []byte{2}},
		{"the third kind with a byte less", e[:37]},
		{"the third kind with a byte more", append(slices.Clone(e), 0)},
	} {
		c := loads(t, x.what, 1, 2, frameRecord(gave), frameRecord(wrote), x.wrong, frameRecord(again), drawRecord(api.Key{3}, took), e)
		asksText(t, c, "a")
		asksEpochs(t, c, api.Dot{})
		if len(c.Proofs()) != 0 {
			t.Errorf("%s: noted %v", x.what, c.Proofs())
		}
	}
	c := loads(t, "a gap", 1, 1, frameRecord(gave), frameRecord(again), frameRecord(wrote))
	asksText(t, c, "")
	// One's own is taken, whatever is on the disk of others.
	c = loads(t, "one's own", 1, 4, frameRecord(gave), frameRecord(wrote), drawRecord(api.Key{3}, took), frameRecord(again))
	asksEpochs(t, c, api.Dot{}, dot(1, 1))
	asksText(t, c, "ab")
	c = loads(t, "an event that saw more", 1, 1, frameRecord(gave), drawRecord(api.Key{3}, took))
	asksEpochs(t, c, api.Dot{})
	// What can't be stays on the disk, and so does what is written behind it.
	d := recordsOn(t, frameRecord(gave), []byte{9})
	c = client.Load(1, seed, d)
	w := done(t)(c.Write(0, 'w'))
	if l := c.Disk().Records(); len(l) != 3 || !bytes.Equal(l[2], frameRecord(w)) {
		t.Errorf("%d records", len(l))
	}
}

// P15.5: the third kind of an epoch that is there already, and of a ring that is full.
func TestLoadOfEpochs(t *testing.T) {
	first := epochRecord(api.Dot{}, first0())
	c := loads(t, "of an epoch that is there", 0, 2, epochRecord(api.Dot{}, api.Key{1}), epochRecord(dot(1, 1), api.Key{2}))
	asksEpochs(t, c, api.Dot{}, dot(1, 1))
	if k, _ := c.Ring().Key(api.Dot{}); k != first0() {
		t.Error("an epoch that was there has another key")
	}
	c = loads(t, "twice", 1, 3, first, epochRecord(api.Dot{}, api.Key{1}), epochRecord(dot(255, 1<<31), api.Key{2}))
	asksEpochs(t, c, api.Dot{}, dot(255, 1<<31))
	if k, _ := c.Ring().Key(api.Dot{}); k != first0() {
		t.Error("the second key of an epoch is taken")
	}
	l := [][]byte{first}
	for n := range uint32(api.MaxEpoch - 1) {
		l = append(l, epochRecord(dot(1, n+1), drawOf(dot(1, n+1))))
	}
	c = loads(t, "as many as there is room for", 1, 16, l...)
	if len(c.Ring().Epochs()) != api.MaxEpoch {
		t.Error(c.Ring().Epochs())
	}
	wrote := frameRecord(done(t)(client.New(0, seed).Write(0, 'a')))
	loads(t, "one more", 1, 16, slices.Concat(l, [][]byte{epochRecord(dot(2, 1), api.Key{}), wrote})...)
	c = loads(t, "one that is there, of a full ring", 1, 18, slices.Concat(l, [][]byte{l[7], wrote})...)
	asksText(t, c, "a")
}

// P15.5: the second kind, whose epoch is there, or finds no room: its frame is not kept either.
func TestLoadOfDraws(t *testing.T) {
	a := client.New(0, seed)
	k := api.Key{3}
	took := drawRecord(k, done(t)(a.Take(1, k)))
	wrote := frameRecord(done(t)(a.Write(0, 'a')))
	c := loads(t, "an epoch that is there", 0, 1, epochRecord(dot(0, 1), k), took, wrote)
	if len(c.Log()) != 0 {
		t.Error("a frame whose key can't be added is kept")
	}
	var l [][]byte
	for n := range uint32(api.MaxEpoch - 1) {
		l = append(l, epochRecord(dot(5, n+1), drawOf(dot(5, n+1))))
	}
	loads(t, "no room", 0, 15, slices.Concat(l, [][]byte{took, wrote})...)
	c = loads(t, "room for one", 0, 16, slices.Concat(l[1:], [][]byte{took, wrote})...)
	asksText(t, c, "a")
	// The second kind is told by its kind alone: the frame may be a write.
	h := handOf(t, 0)
	c = loads(t, "of a write", 0, 1, drawRecord(k, h.says(first('w'))))
	asksText(t, c, "w")
	asksEpochs(t, c, api.Dot{}, dot(0, 1))
	// A frame that is sealed under the key that its own record brings can't be opened: it is added behind it.
	h = handOf(t, 0, dot(0, 1))
	loads(t, "sealed under its own epoch", 0, 0, drawRecord(drawOf(dot(0, 1)), h.frame(dot(0, 1), nil, h.event(revoke(1)))))
}

// P15.5: keys that only the frame's wraps have.
func TestLoadOfAKeyInTheFrame(t *testing.T) {
	next := dot(0, 9)
	for _, x := range []struct {
		what  string
		event api.Event
		taken int
	}{
		{"a grant", grant(2, api.Reader), 2},
		{"a revoke", revoke(2), 2},
		{"an insert", first('x'), 1},
	} {
		_, b := two(t, 1, api.Writer)
		h := handOf(t, 0, next)
		h.follow(b.Log()[0])
		l := [][]byte{frameRecord(b.Log()[0]), frameRecord(h.frame(next, []api.Wrap{h.wrap(1, next)}, h.event(x.event)))}
		c := loads(t, x.what, 1, x.taken, l...)
		if c.Ring().Has(next) != (x.taken == 2) {
			t.Errorf("%s: epochs %v", x.what, c.Ring().Epochs())
		}
	}
	// Of one's own frames wraps are no wraps for oneself.
	h := handOf(t, 0)
	w := api.Wrap{To: 0, Epoch: dot(1, 1)}
	h.ring.Add(dot(1, 1), api.Key{4})
	c := loads(t, "one's own", 0, 1, frameRecord(h.frame(api.Dot{}, []api.Wrap{w}, h.event(grant(1, api.Reader)))))
	asksEpochs(t, c, api.Dot{})
	// Without force they don't stay.
	h = handOf(t, 3, next)
	_, b := two(t, 1, api.Writer)
	g := frameRecord(h.frame(api.Dot{}, []api.Wrap{h.wrap(1, next)}, h.event(grant(3, api.Admin))))
	c = loads(t, "a grant without force", 1, 2, frameRecord(b.Log()[0]), g)
	asksEpochs(t, c, api.Dot{})
	g = frameRecord(h.frame(next, []api.Wrap{h.wrap(1, next)}, h.event(grant(3, api.Admin))))
	loads(t, "a grant without force, under the key of its wrap", 1, 1, frameRecord(b.Log()[0]), g)
}

// P15.5, E5: a torn record goes; what stands ahead of it is the client.
func TestLoadOfATornRecord(t *testing.T) {
	a, _ := two(t, 1, api.Writer)
	was := stateOf(a)
	b := a.Fork()
	whole := frameRecord(done(t)(b.Write(0, 'a')))
	for keep := range len(whole) + 12 {
		d := a.Disk()
		d.Write(whole)
		d.Power(keep)
		c := client.Load(0, seed, d)
		want := was
		if keep >= len(whole)+10 {
			want = stateOf(b)
		}
		if !stateOf(c).alike(want) {
			t.Fatalf("of %d bytes that were kept Load makes another one", keep)
		}
		if w, err := c.Write(0, 'z'); err != api.OK || len(client.Load(0, seed, c.Disk()).Log()) != len(c.Log()) {
			t.Fatalf("nothing can be written behind it: %x, %d", w, err)
		}
	}
	// What was written, but not synced, is there as long as the power is.
	d := a.Disk()
	d.Write(whole)
	if c := client.Load(0, seed, d); !stateOf(c).alike(stateOf(b)) {
		t.Error("a record that was not synced is not there")
	}
	d = disk.New()
	d.Write([]byte{0})
	d.Power(5)
	if c := client.Load(2, seed, d); len(c.Disk().Bytes()) != 0 {
		t.Error("a torn record stays")
	}
}

// Another seed opens nothing.
func TestLoadOfAnotherSeed(t *testing.T) {
	a, _ := two(t, 1, api.Writer)
	c := client.Load(0, api.Key{8}, a.Disk())
	if len(c.Log()) != 0 || len(c.Events()) != 0 {
		t.Error(c.Log())
	}
}
