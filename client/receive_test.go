package client_test

import (
	"bytes"
	"slices"
	"testing"

	"escritoire/aead"
	"escritoire/api"
	"escritoire/client"
	"escritoire/frame"
	"escritoire/keys"
	"escritoire/wire"
)

// P15.3: bytes that are no frame, and frames that nobody made.
func TestReceiveOfNoFrame(t *testing.T) {
	a, b := two(t, 1, api.Writer)
	good := done(t)(a.Write(0, 'a'))
	for _, x := range [][]byte{nil, {}, {0x45}, good[:len(good)-1], slices.Concat(good, []byte{0}), good[1:], make([]byte, bare), make([]byte, 10000), []byte("hello")} {
		refuses(t, "no frame", b, x, api.ErrForm)
	}
	for i := range good {
		bad := slices.Clone(good)
		bad[i] ^= 1
		err := b.Receive(bad)
		if err == api.OK || len(b.Proofs()) != 0 {
			t.Fatalf("byte %d changed: error %d, proofs %v", i, err, b.Proofs())
		}
		// The marks and the lengths are the form; a number of more than a byte is none; all else is tagged.
		switch i {
		case 0, 1, 44, 45, 46:
			asks(t, "the form", err, api.ErrForm)
		case 3, 4, 5:
			asks(t, "a number", err, api.ErrRange)
		default:
			asks(t, "a tag", err, api.ErrTag)
		}
	}
	receives(t, b, good)
	asksText(t, b, "a")
}

// P15.3: frame.Check's error comes ahead of ErrOwn, and that ahead of chain.Look's.
func TestReceiveInOrder(t *testing.T) {
	a, b := two(t, 1, api.Writer)
	wrote := done(t)(b.Write(0, 'b'))
	f := frameOf(t, wrote)
	h := handOf(t, 1)
	for _, x := range []struct {
		what   string
		change func(f *api.Frame)
		want   api.Errno
	}{
		{"author 8", func(f *api.Frame) { f.Author = 8 }, api.ErrRange},
		{"author 255", func(f *api.Frame) { f.Author = 255 }, api.ErrRange},
		{"number 0", func(f *api.Frame) { f.Number = 0 }, api.ErrRange},
		{"number 257", func(f *api.Frame) { f.Number = api.MaxBatch + 1 }, api.ErrRange},
		{"number 256", func(f *api.Frame) { f.Number = api.MaxBatch }, api.ErrOwn},
		{"one's own", func(f *api.Frame) {}, api.ErrOwn},
		{"one's own, unlike", func(f *api.Frame) { f.Body[0]++ }, api.ErrOwn},
		{"one's own, behind another one", func(f *api.Frame) { f.Number, f.Prev = 2, api.Key{1} }, api.ErrOwn},
	} {
		g := f
		g.Body = slices.Clone(f.Body)
		x.change(&g)
		refuses(t, x.what, b, bytesOf(t, h.tagged(g)), x.want)
		g = h.tagged(g)
		g.Mac[31]++
		want := api.ErrTag
		if x.want == api.ErrRange {
			want = api.ErrRange
		}
		refuses(t, x.what+" with a wrong tag", b, bytesOf(t, g), want)
	}
	receives(t, a, wrote)
	refuses(t, "a known one", a, wrote, api.ErrKnown)
	f.Mac[0]++
	refuses(t, "a known one with a wrong tag", a, bytesOf(t, f), api.ErrTag)
}

// P15.3: a gap, and the same frame once it is closed.
func TestReceiveBehindAGap(t *testing.T) {
	a, b := two(t, 1, api.Writer)
	l := [][]byte{done(t)(a.Write(0, 'a')), done(t)(a.Write(1, 'b')), done(t)(a.Write(2, 'c'))}
	refuses(t, "behind a gap", b, l[2], api.ErrGap)
	refuses(t, "behind a gap", b, l[1], api.ErrGap)
	receives(t, b, l...)
	asksText(t, b, "abc")
	for _, x := range l {
		refuses(t, "known", b, x, api.ErrKnown)
	}
	// A gap of another author's events, which the event saw, is told behind the key's error and ahead of the ring's.
	h := handOf(t, 0, dot(3, 1))
	for _, x := range l {
		h.follow(x)
	}
	h.last.Count = 4
	h.last.Sum = frame.Sum(frameOf(t, l[2]))
	saw := h.event(first('d'), 4, 1)
	refuses(t, "an event that saw more", b, h.frame(api.Dot{}, nil, saw), api.ErrGap)
	refuses(t, "and whose key is not there", b, h.frame(dot(3, 1), nil, saw), api.ErrKey)
	refuses(t, "and whose key only the frame has", b, h.frame(dot(3, 1), []api.Wrap{h.wrap(1, dot(3, 1))}, saw), api.ErrGap)
}

// P15.3: forks, and what is noted of them.
func TestReceiveOfForks(t *testing.T) {
	a, b := two(t, 1, api.Writer)
	l := [][]byte{done(t)(a.Write(0, 'a')), done(t)(a.Write(1, 'b'))}
	receives(t, b, l...)
	sum := func(x []byte) api.Key { return frame.Sum(frameOf(t, x)) }
	// Another first one, another second one.
	h := handOf(t, 0, dot(9, 9))
	one := h.says(first('x'))
	refuses(t, "another first one", b, one, api.ErrFork, api.Proof{Author: 0, Number: 1, A: sum(b.Log()[0]), B: sum(one)})
	two := h.says(first('y'))
	refuses(t, "another second one", b, two, api.ErrFork, api.Proof{Author: 0, Number: 2, A: sum(l[0]), B: sum(two)})
	refuses(t, "the same once more", b, two, api.ErrFork)
	// The next one behind another one; its key needn't be there.
	three := h.says(first('z'))
	four := h.frame(dot(9, 9), nil, h.event(first('q')))
	refuses(t, "the next one behind another one", b, four, api.ErrFork, api.Proof{Author: 0, Number: 3, A: sum(l[1]), B: sum(three)})
	if len(b.Proofs()) != 3 {
		t.Error(b.Proofs())
	}
	// Of a first one behind something nothing is noted, nor of one whose tag is wrong.
	h = handOf(t, 5)
	h.last.Sum = api.Key{1}
	refuses(t, "a first one behind something", b, h.frame(api.Dot{}, nil, h.event(first('x'))), api.ErrForm)
	bad := frameOf(t, one)
	bad.Body[0]++
	refuses(t, "another one with a wrong tag", b, bytesOf(t, bad), api.ErrTag)
	// What is honest goes on.
	receives(t, b, done(t)(a.Write(2, 'c')))
	asksText(t, b, "abc")
	if len(a.Proofs()) != 0 {
		t.Error("who told one tale has noted something")
	}
}

// Of a fork of oneself nothing is noted: it is one's own.
func TestReceiveOfAForkOfOneself(t *testing.T) {
	_, b := two(t, 1, api.Writer)
	done(t)(b.Write(0, 'b'))
	h := handOf(t, 1)
	refuses(t, "a fork of oneself", b, h.says(first('x'), 1), api.ErrOwn)
}

// P15.3: what is inside can't be opened, or is none.
func TestReceiveOfWrongBodies(t *testing.T) {
	_, b := two(t, 1, api.Writer)
	first0 := first0()
	h := handOf(t, 0)
	h.follow(b.Log()[0])
	e := h.event(first('x'), 1)
	k, _ := h.ring.FrameKey(api.Dot{}, 0)
	pad := func(b []byte) []byte { return done(t)(wire.Pad(b)) }
	good := pad(wire.Event(e))
	for _, x := range []struct {
		what   string
		k      api.Key
		padded []byte
		want   api.Errno
	}{
		{"sealed under another key", first0, good, api.ErrTag},
		{"not padded", k, wire.Event(e), api.ErrForm},
		{"padded too far", k, append(slices.Clone(good), make([]byte, 128)...), api.ErrForm},
		{"no event", k, pad([]byte("no event")), api.ErrForm},
		{"nothing", k, pad(nil), api.ErrForm},
		{"no bytes", k, nil, api.ErrForm},
		{"an event of another author", k, pad(wire.Event(api.Event{Dot: dot(1, 1), Past: api.Vector{1}, Kind: api.Insert, Right: true, Char: 'x'})), api.ErrForm},
		{"an event of another number", k, pad(wire.Event(api.Event{Dot: dot(0, 1), Kind: api.Insert, Right: true, Char: 'x'})), api.ErrForm},
		{"an event that is not right", k, pad(wire.Event(api.Event{Dot: dot(0, 2), Past: api.Vector{1}, Kind: api.Insert, Right: true})), api.ErrForm},
	} {
		refuses(t, x.what, b, h.raw(api.Dot{}, x.k, nil, x.padded), x.want)
	}
	f := api.Frame{Author: 0, Number: 2, Prev: h.last.Sum, Body: make([]byte, 15)}
	refuses(t, "a Body of 15 bytes", b, bytesOf(t, h.tagged(f)), api.ErrForm)
	refuses(t, "of an epoch that is not there", b, h.raw(dot(0, 1), k, nil, good), api.ErrKey)
	raw := h.raw(api.Dot{}, k, nil, good)
	if want := h.frame(api.Dot{}, nil, e); !bytes.Equal(raw, want) {
		t.Error("what is laid out by hand is no frame")
	}
	receives(t, b, raw)
	asksText(t, b, "x")
}

// P15.3: a frame under a key that only its own wraps have: of a grant or a revoke that has force alone it is kept.
func TestReceiveOfAKeyInTheFrame(t *testing.T) {
	next := dot(0, 9)
	for _, x := range []struct {
		what  string
		by    byte
		event api.Event
		want  api.Errno
	}{
		{"a grant that has force", 0, grant(3, api.Writer), api.OK},
		{"a revoke that has force", 0, revoke(3), api.OK},
		{"a grant to oneself", 0, grant(2, api.Admin), api.OK},
		{"a revoke of oneself", 0, revoke(2), api.OK},
		{"an insert", 0, first('x'), api.ErrKey},
		{"an insert without force", 3, first('x'), api.ErrKey},
		{"a grant without force", 3, grant(3, api.Admin), api.ErrKey},
		{"a revoke without force", 3, revoke(0), api.ErrKey},
		{"a grant by a writer", 1, grant(1, api.Admin), api.ErrKey},
	} {
		c := client.New(2, seed)
		receives(t, c, grants(t, 1, 2)...)
		h := handOf(t, x.by, next)
		for _, l := range c.Log() {
			if frameOf(t, l).Author == x.by {
				h.follow(l)
			}
		}
		e := h.event(x.event, 2, 0)
		refuses(t, x.what+" without wraps", c, h.frame(next, nil, e), api.ErrKey)
		refuses(t, x.what+" with wraps for others", c, h.frame(next, []api.Wrap{h.wrap(5, next)}, e), api.ErrKey)
		w := h.wrap(2, next)
		w.Data[0]++
		refuses(t, x.what+" with a wrap that can't be opened", c, h.frame(next, []api.Wrap{w}, e), api.ErrKey)
		b := h.frame(next, []api.Wrap{w, h.wrap(5, next), h.wrap(2, next)}, e)
		if x.want != api.OK {
			refuses(t, x.what, c, b, x.want)
			continue
		}
		full := roomy(t, c, recorded+len(b)-1)
		refuses(t, x.what+" without room", full, b, api.ErrFull)
		receives(t, c, b)
		asksEpochs(t, c, api.Dot{}, next)
		if k, _ := c.Ring().Key(next); k != drawOf(next) {
			t.Error("another key")
		}
		if !bytes.Equal(lastRecord(t, c), frameRecord(b)) {
			t.Error("another record")
		}
	}
}

// grants are frames by which member 0 gives one member the role Writer, and another one the role Reader. The first one has the key for both, so that both can receive all.
func grants(t *testing.T, writer, reader byte) [][]byte {
	t.Helper()
	h := handOf(t, 0)
	one := h.frame(api.Dot{}, []api.Wrap{h.wrap(writer, api.Dot{}), h.wrap(reader, api.Dot{})}, h.event(grant(writer, api.Writer)))
	h.follow(one)
	return [][]byte{one, h.says(grant(reader, api.Reader))}
}

// P15.3: of frames whose key is there wraps stay only of a grant or a revoke that has force.
func TestWhichWrapsStay(t *testing.T) {
	e1, e2, e3 := dot(0, 7), dot(3, 8), dot(1, 1)
	for _, x := range []struct {
		what  string
		by    byte
		event api.Event
		stay  bool
	}{
		{"an insert", 0, first('x'), false},
		{"a grant", 0, grant(4, api.Reader), true},
		{"a revoke", 0, revoke(4), true},
		{"a grant without force", 4, grant(4, api.Admin), false},
		{"a revoke without force", 4, revoke(1), false},
		{"an insert without force", 4, first('y'), false},
	} {
		_, b := two(t, 1, api.Writer)
		h := handOf(t, x.by, e1, e2, e3)
		if x.by == 0 {
			h.follow(b.Log()[0])
		}
		bad := h.wrap(1, e2)
		bad.Data[47]++
		forOther := h.wrap(2, e2)
		known := h.wrap(1, api.Dot{})
		// A wrap of the epoch that is there already, with another key, is left out.
		other := keys.New(x.by, seed)
		if x.by != 0 {
			other.Add(api.Dot{}, api.Key{66})
			known, _ = other.Wrap(1, api.Dot{})
		}
		wraps := []api.Wrap{forOther, h.wrap(1, e3), bad, known, h.wrap(1, e1), h.wrap(1, e3)}
		receives(t, b, h.frame(api.Dot{}, wraps, h.event(x.event, 1)))
		if x.stay {
			asksEpochs(t, b, api.Dot{}, e3, e1)
		} else {
			asksEpochs(t, b, api.Dot{})
		}
		if k, _ := b.Ring().Key(api.Dot{}); k != first0() {
			t.Errorf("%s: the first epoch has another key", x.what)
		}
		if l := client.Load(1, seed, b.Disk()); !stateOf(l).alike(stateOf(b)) {
			t.Errorf("%s: Load is another one", x.what)
		}
	}
}

// Wraps that another one made, or for another one, are no wraps for oneself, whatever they say.
func TestWrapsOfAnotherOne(t *testing.T) {
	_, b := two(t, 1, api.Writer)
	h, other := handOf(t, 0, dot(0, 7)), handOf(t, 2, dot(0, 7))
	h.follow(b.Log()[0])
	made := other.wrap(1, dot(0, 7))
	turned := h.wrap(3, dot(0, 7))
	turned.To = 1
	receives(t, b, h.frame(api.Dot{}, []api.Wrap{made, turned}, h.event(grant(5, api.Reader))))
	asksEpochs(t, b, api.Dot{})
}

// P15.3: a ring that is full leaves wraps out, and keeps the frame, if its own key is there.
func TestReceiveWithAFullRing(t *testing.T) {
	_, b := two(t, 1, api.Writer)
	h := handOf(t, 0)
	h.follow(b.Log()[0])
	for n := range uint32(15) {
		k := dot(0, 100+n)
		h.ring.Add(k, drawOf(k))
	}
	var wraps []api.Wrap
	for _, epoch := range h.ring.Epochs() {
		wraps = append(wraps, h.wrap(1, epoch))
	}
	g := h.frame(api.Dot{}, wraps, h.event(grant(2, api.Reader)))
	receives(t, b, g)
	h.follow(g)
	asksEpochs(t, b, h.ring.Epochs()...)
	// One more epoch than the ring has room for.
	more := handOf(t, 0, dot(0, 3))
	more.last = h.last
	r := more.frame(api.Dot{}, []api.Wrap{more.wrap(1, dot(0, 3))}, more.event(revoke(2)))
	receives(t, b, r)
	asksEpochs(t, b, h.ring.Epochs()...)
	more.follow(r)
	refuses(t, "under the epoch that found no room", b, more.frame(dot(0, 3), nil, more.event(first('x'))), api.ErrKey)
	refuses(t, "and with the wrap", b, more.frame(dot(0, 3), []api.Wrap{more.wrap(1, dot(0, 3))}, more.event(revoke(2))), api.ErrKey)
	if l := client.Load(1, seed, b.Disk()); !stateOf(l).alike(stateOf(b)) {
		t.Error("Load is another one")
	}
}

// P15.3: the disk's error, with just so much room, and with one byte less; it comes last.
func TestReceiveOnAFullDisk(t *testing.T) {
	a, b := two(t, 1, api.Writer)
	w := done(t)(a.Write(0, 'a'))
	for _, room := range []int{0, recorded, recorded + bare - 1} {
		full := roomy(t, b, room)
		refuses(t, "without room", full, w, api.ErrFull)
		refuses(t, "of a known one", full, b.Log()[0], api.ErrKnown)
		refuses(t, "of no frame", full, nil, api.ErrForm)
		h := handOf(t, 0, dot(0, 5))
		h.follow(b.Log()[0])
		refuses(t, "of one whose key is in it alone", full, h.frame(dot(0, 5), []api.Wrap{h.wrap(1, dot(0, 5))}, h.event(first('x'))), api.ErrKey)
		refuses(t, "of one whose key is not there", full, h.frame(dot(0, 5), nil, h.event(first('x'))), api.ErrKey)
	}
	c := roomy(t, b, recorded+bare)
	receives(t, c, w)
	if !bytes.Equal(lastRecord(t, c), frameRecord(w)) || len(c.Disk().Bytes()) != api.MaxDisk {
		t.Error("another record")
	}
	asksText(t, c, "a")
	refuses(t, "none left", c, done(t)(a.Write(0, 'b')), api.ErrFull)
}

// E3, P10.6: what its author was not allowed is kept, and has no force.
func TestReceiveOfWhatIsNotAllowed(t *testing.T) {
	a, b := two(t, 1, api.Writer)
	h := handOf(t, 5)
	l := [][]byte{h.says(first('x')), h.says(grant(5, api.Admin)), h.says(revoke(0)), h.says(first('y'))}
	for _, c := range []*client.Client{a, b} {
		was := c.Members()
		receives(t, c, l...)
		asksText(t, c, "")
		if c.Members() != was || c.Vector()[5] != 4 || len(c.Log()) != 5 {
			t.Error(c.Members(), c.Vector())
		}
	}
	// Who has lost its role, and saw it.
	took := done(t)(a.Take(1, api.Key{5}))
	h = handOf(t, 1)
	saw := h.says(first('z'), 2)
	refuses(t, "an event that saw more", b, saw, api.ErrOwn)
	receives(t, b, took)
	receives(t, a, saw)
	asksText(t, a, "")
}

// A greatest frame fits on a disk.
func TestReceiveOfTheGreatestFrame(t *testing.T) {
	_, b := two(t, 1, api.Writer)
	h := handOf(t, 0)
	h.follow(b.Log()[0])
	wraps := make([]api.Wrap, api.MaxWraps)
	g := h.frame(api.Dot{}, wraps, h.event(grant(2, api.Reader)))
	receives(t, b, g)
	asksEpochs(t, b, api.Dot{})
	if len(lastRecord(t, b)) != 1+bare+api.MaxWraps*wrapped {
		t.Error(len(lastRecord(t, b)))
	}
	if l := client.Load(1, seed, b.Disk()); !stateOf(l).alike(stateOf(b)) {
		t.Error("Load is another one")
	}
	k, _ := h.ring.FrameKey(api.Dot{}, 0)
	f := api.Frame{Author: 0, Number: 3, Prev: frame.Sum(frameOf(t, g)), Wraps: wraps}
	f.Body = aead.Seal(k, keys.Nonce(3), wire.Open(f), make([]byte, api.MaxBody))
	refuses(t, "the greatest Body", b, bytesOf(t, h.tagged(f)), api.ErrForm)
}
