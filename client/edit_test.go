package client_test

import (
	"bytes"
	"math"
	"slices"
	"testing"

	"escritoire/api"
	"escritoire/client"
	"escritoire/doc"
	"escritoire/frame"
	"escritoire/keys"
)

// asksFrame asks that the bytes are the frame that an author's ring makes of an event, and that all of it was kept, with a record.
func asksFrame(t *testing.T, was, c *client.Client, b []byte, epoch api.Dot, wraps []api.Wrap, e api.Event, record []byte) {
	t.Helper()
	own := c.Own()
	head := was.Heads()[own]
	f, err := frame.Seal(was.Ring(), head.Count+1, head.Sum, epoch, wraps, e)
	if err != api.OK {
		t.Fatal(err)
	}
	if want := bytesOf(t, f); !bytes.Equal(b, want) {
		t.Errorf("the frame is %x instead of %x", b, want)
	}
	if got := lastRecord(t, c); !bytes.Equal(got, record) {
		t.Errorf("the record is %x instead of %x", got, record)
	}
	if len(c.Disk().Records()) != len(was.Disk().Records())+1 {
		t.Error("not one record more")
	}
	if h := c.Heads()[own]; h != (api.Head{Count: head.Count + 1, Sum: frame.Sum(f)}) {
		t.Errorf("the head is %v", h)
	}
	if l := c.Log(); len(l) != len(was.Log())+1 || !bytes.Equal(l[len(l)-1], b) {
		t.Error("the frame does not stand behind the log")
	}
	if l := c.Events(); len(l) != len(was.Events())+1 || l[len(l)-1] != e {
		t.Error("the event was not applied")
	}
}

// docOf is a document of what a client has kept.
func docOf(t *testing.T, c *client.Client) *doc.Doc {
	t.Helper()
	d := doc.New()
	for _, e := range c.Events() {
		if err := d.Apply(e); err != api.OK {
			t.Fatal(err)
		}
	}
	return d
}

// P15.2
func TestWriteAndErase(t *testing.T) {
	a, b := two(t, 3, api.Writer)
	receives(t, b, done(t)(a.Write(0, 'a')))
	for _, c := range []*client.Client{a, b} {
		was := c.Fork()
		e, _ := docOf(t, c).Write(c.Own(), 1, 'w')
		w := done(t)(c.Write(1, 'w'))
		asksFrame(t, was, c, w, api.Dot{}, nil, e, frameRecord(w))
		asksText(t, c, "aw")
		if len(w) != bare {
			t.Errorf("%d bytes", len(w))
		}
		was = c.Fork()
		e, _ = docOf(t, c).Erase(c.Own(), 0)
		w = done(t)(c.Erase(0))
		asksFrame(t, was, c, w, api.Dot{}, nil, e, frameRecord(w))
		asksText(t, c, "w")
		if len(w) != bare {
			t.Errorf("%d bytes", len(w))
		}
		asksEpochs(t, c, api.Dot{})
	}
}

// P15.2: of Give a wrap of each epoch, in order, for who alone.
func TestGive(t *testing.T) {
	a := client.New(0, seed)
	for n := range uint32(3) {
		was := a.Fork()
		e, _ := docOf(t, a).Give(0, 7, api.Reader)
		g := done(t)(a.Give(7, api.Reader))
		var wraps []api.Wrap
		for _, epoch := range was.Ring().Epochs() {
			w, _ := was.Ring().Wrap(7, epoch)
			wraps = append(wraps, w)
		}
		if len(wraps) != int(n)+1 {
			t.Fatalf("%d epochs", len(wraps))
		}
		epoch, _ := was.Ring().Now()
		asksFrame(t, was, a, g, epoch, wraps, e, frameRecord(g))
		if a.Members()[7] != api.Reader || len(g) != bare+len(wraps)*wrapped {
			t.Error(a.Members(), len(g))
		}
		done(t)(a.Take(6, drawOf(dot(0, 2*n+2))))
	}
	asksEpochs(t, a, api.Dot{}, dot(0, 2), dot(0, 4), dot(0, 6))
}

// P15.2: of Take a wrap of the new epoch for each that has a role behind it, rising; the frame itself is under the old one.
func TestTake(t *testing.T) {
	a := client.New(0, seed)
	for _, x := range []struct {
		who  byte
		role api.Role
	}{{5, api.Reader}, {2, api.Writer}, {7, api.Admin}, {3, api.Writer}} {
		done(t)(a.Give(x.who, x.role))
	}
	was := a.Fork()
	e, _ := docOf(t, a).Take(0, 3)
	draw := api.Key{1, 2, 3}
	b := done(t)(a.Take(3, draw))
	behind := was.Ring()
	behind.Add(dot(0, 5), draw)
	var wraps []api.Wrap
	for _, to := range []byte{2, 5, 7} {
		w, _ := behind.Wrap(to, dot(0, 5))
		wraps = append(wraps, w)
	}
	asksFrame(t, was, a, b, api.Dot{}, wraps, e, drawRecord(draw, b))
	asksEpochs(t, a, api.Dot{}, dot(0, 5))
	if k, _ := a.Ring().Key(dot(0, 5)); k != draw || a.Members()[3] != api.NoRole {
		t.Error(k, a.Members())
	}
	w := done(t)(a.Write(0, 'w'))
	if f := frameOf(t, w); f.Epoch != dot(0, 5) || len(f.Wraps) != 0 {
		t.Error(f.Epoch, f.Wraps)
	}
}

// Another one that takes a role away wraps for member 0, which has a role that nobody gave it.
func TestTakeByAnother(t *testing.T) {
	a, b := two(t, 4, api.Admin)
	f := frameOf(t, done(t)(b.Take(1, api.Key{9})))
	if len(f.Wraps) != 1 || f.Wraps[0].To != 0 || f.Wraps[0].Epoch != dot(4, 1) || f.Epoch != (api.Dot{}) {
		t.Error(f.Wraps)
	}
	receives(t, a, bytesOf(t, f))
	asksEpochs(t, a, api.Dot{}, dot(4, 1))
	// And whoever loses its own role by it is not told the new key.
	f = frameOf(t, done(t)(b.Take(0, api.Key{8})))
	if len(f.Wraps) != 0 {
		t.Error(f.Wraps)
	}
	receives(t, a, bytesOf(t, f))
	asksEpochs(t, a, api.Dot{}, dot(4, 1))
	asks(t, "a write by the new key", a.Receive(done(t)(b.Write(0, 'b'))), api.ErrKey)
	refused(t, "a write without a role", a, api.ErrRole, func() ([]byte, api.Errno) { return a.Write(0, 'a') })
}

// P15.2: which error comes first.
func TestEditErrors(t *testing.T) {
	a, b := two(t, 1, api.Writer)
	done(t)(a.Write(0, 'a'))
	nobody := client.New(7, seed)
	for _, x := range []struct {
		what string
		c    *client.Client
		want api.Errno
		do   func(c *client.Client) ([]byte, api.Errno)
	}{
		{"character 0", a, api.ErrRange, func(c *client.Client) ([]byte, api.Errno) { return c.Write(0, 0) }},
		{"character 128", a, api.ErrRange, func(c *client.Client) ([]byte, api.Errno) { return c.Write(0, 128) }},
		{"place -1", a, api.ErrRange, func(c *client.Client) ([]byte, api.Errno) { return c.Write(-1, 'a') }},
		{"place behind the end", a, api.ErrRange, func(c *client.Client) ([]byte, api.Errno) { return c.Write(2, 'a') }},
		{"least place", a, api.ErrRange, func(c *client.Client) ([]byte, api.Errno) { return c.Write(math.MinInt, 'a') }},
		{"greatest place", a, api.ErrRange, func(c *client.Client) ([]byte, api.Errno) { return c.Erase(math.MaxInt) }},
		{"Erase at the end", a, api.ErrRange, func(c *client.Client) ([]byte, api.Errno) { return c.Erase(1) }},
		{"Erase at -1", a, api.ErrRange, func(c *client.Client) ([]byte, api.Errno) { return c.Erase(-1) }},
		{"Give to 8", a, api.ErrRange, func(c *client.Client) ([]byte, api.Errno) { return c.Give(8, api.Writer) }},
		{"Give of no role", a, api.ErrRange, func(c *client.Client) ([]byte, api.Errno) { return c.Give(7, api.NoRole) }},
		{"Give of role 4", a, api.ErrRange, func(c *client.Client) ([]byte, api.Errno) { return c.Give(7, 4) }},
		{"Give to oneself", a, api.ErrOwn, func(c *client.Client) ([]byte, api.Errno) { return c.Give(0, api.Writer) }},
		{"Give of role 4 to oneself", a, api.ErrOwn, func(c *client.Client) ([]byte, api.Errno) { return c.Give(0, 4) }},
		{"Take of 8", a, api.ErrRange, func(c *client.Client) ([]byte, api.Errno) { return c.Take(8, api.Key{}) }},
		{"Take of 255", a, api.ErrRange, func(c *client.Client) ([]byte, api.Errno) { return c.Take(255, api.Key{}) }},
		{"Take of oneself", a, api.ErrOwn, func(c *client.Client) ([]byte, api.Errno) { return c.Take(0, api.Key{}) }},
		{"Give without the role", b, api.ErrRole, func(c *client.Client) ([]byte, api.Errno) { return c.Give(2, api.Reader) }},
		{"Give to oneself without the role", b, api.ErrOwn, func(c *client.Client) ([]byte, api.Errno) { return c.Give(1, api.Admin) }},
		{"Take without the role", b, api.ErrRole, func(c *client.Client) ([]byte, api.Errno) { return c.Take(0, api.Key{}) }},
		{"Take of oneself without the role", b, api.ErrOwn, func(c *client.Client) ([]byte, api.Errno) { return c.Take(1, api.Key{}) }},
		{"Write without a role", nobody, api.ErrRole, func(c *client.Client) ([]byte, api.Errno) { return c.Write(0, 'a') }},
		{"Write of 0 without a role", nobody, api.ErrRange, func(c *client.Client) ([]byte, api.Errno) { return c.Write(0, 0) }},
		{"Write at -1 without a role", nobody, api.ErrRole, func(c *client.Client) ([]byte, api.Errno) { return c.Write(-1, 'a') }},
		{"Erase without a role", nobody, api.ErrRole, func(c *client.Client) ([]byte, api.Errno) { return c.Erase(0) }},
	} {
		refused(t, x.what, x.c, x.want, func() ([]byte, api.Errno) { return x.do(x.c) })
	}
	done(t)(a.Give(7, api.Writer))
	done(t)(a.Take(7, api.Key{5}))
}

// A reader writes nothing.
func TestReaderWritesNothing(t *testing.T) {
	_, b := two(t, 1, api.Reader)
	refused(t, "Write", b, api.ErrRole, func() ([]byte, api.Errno) { return b.Write(0, 'b') })
}

// P15.2: without any epoch, behind doc's error and ahead of the disk's.
func TestEditsWithoutKeys(t *testing.T) {
	_, b := two(t, 1, api.Admin)
	done(t)(b.Write(0, 'b'))
	for _, room := range []int{1000, 0} {
		c := roomy(t, b, room)
		c.LoseKeys(seed)
		refused(t, "Write", c, api.ErrKey, func() ([]byte, api.Errno) { return c.Write(0, 'b') })
		refused(t, "Erase", c, api.ErrKey, func() ([]byte, api.Errno) { return c.Erase(0) })
		refused(t, "Give", c, api.ErrKey, func() ([]byte, api.Errno) { return c.Give(2, api.Writer) })
		refused(t, "Take", c, api.ErrKey, func() ([]byte, api.Errno) { return c.Take(2, api.Key{4}) })
		refused(t, "Erase of nothing", c, api.ErrRange, func() ([]byte, api.Errno) { return c.Erase(1) })
		refused(t, "Take of oneself", c, api.ErrOwn, func() ([]byte, api.Errno) { return c.Take(1, api.Key{4}) })
	}
}

// fullRing is member 0 whose ring has MaxEpoch epochs.
func fullRing(t *testing.T) *client.Client {
	t.Helper()
	a := client.New(0, seed)
	for n := range uint32(api.MaxEpoch - 1) {
		done(t)(a.Take(1, drawOf(dot(0, n+1))))
	}
	if n := len(a.Ring().Epochs()); n != api.MaxEpoch {
		t.Fatalf("%d epochs", n)
	}
	return a
}

// P15.2: ErrFull of a Take, if the ring has MaxEpoch; the others go on.
func TestTakeOfAFullRing(t *testing.T) {
	a := fullRing(t)
	refused(t, "Take", a, api.ErrFull, func() ([]byte, api.Errno) { return a.Take(1, api.Key{4}) })
	refused(t, "Take of oneself", a, api.ErrOwn, func() ([]byte, api.Errno) { return a.Take(0, api.Key{4}) })
	refused(t, "Take of 8", a, api.ErrRange, func() ([]byte, api.Errno) { return a.Take(8, api.Key{4}) })
	if f := frameOf(t, done(t)(a.Write(0, 'a'))); f.Epoch != dot(0, 15) {
		t.Error(f.Epoch)
	}
	g := done(t)(a.Give(1, api.Writer))
	if n := len(frameOf(t, g).Wraps); n != api.MaxEpoch || len(g) != bare+api.MaxEpoch*wrapped {
		t.Errorf("%d wraps, %d bytes", n, len(g))
	}
	b, err := client.Restore(1, seed, 0, done(t)(a.Snapshot(1)))
	asks(t, "Restore", err, api.OK)
	asksEpochs(t, b, a.Ring().Epochs()...)
	receives(t, a, done(t)(b.Write(1, 'b')))
	asksText(t, a, "ab")
}

// An epoch that somebody wrapped for one ahead of its time can't be begun once more; no room is told ahead of it.
func TestTakeOfAnEpochThatIsThere(t *testing.T) {
	a, _ := two(t, 1, api.Admin)
	h := handOf(t, 1, dot(0, 2), dot(0, 16))
	b := h.frame(api.Dot{}, []api.Wrap{h.wrap(0, dot(0, 2)), h.wrap(0, dot(0, 16))}, h.event(grant(2, api.Reader), 1))
	receives(t, a, b)
	asksEpochs(t, a, api.Dot{}, dot(0, 2), dot(0, 16))
	refused(t, "Take as an epoch that is there", a, api.ErrKnown, func() ([]byte, api.Errno) { return a.Take(3, api.Key{4}) })
	// Behind another event its dot is a new one.
	done(t)(a.Write(0, 'a'))
	for range 12 {
		done(t)(a.Take(3, api.Key{5}))
	}
	// The next one is the 15th, whose epoch is not there; with it the ring is full, and the 16th is both.
	done(t)(a.Take(3, api.Key{6}))
	if n := len(a.Ring().Epochs()); n != api.MaxEpoch || a.Vector()[0] != 15 {
		t.Fatal(n, a.Vector())
	}
	refused(t, "Take of a full ring as an epoch that is there", a, api.ErrFull, func() ([]byte, api.Errno) { return a.Take(3, api.Key{4}) })
}

// P15.2: the disk's error, with just so much room, and with one byte less.
func TestEditsOnAFullDisk(t *testing.T) {
	a, _ := two(t, 1, api.Writer)
	done(t)(a.Write(0, 'a'))
	for what, x := range map[string]struct {
		size int
		do   func(c *client.Client) ([]byte, api.Errno)
	}{
		"Write": {recorded + bare, func(c *client.Client) ([]byte, api.Errno) { return c.Write(0, 'x') }},
		"Erase": {recorded + bare, func(c *client.Client) ([]byte, api.Errno) { return c.Erase(0) }},
		"Give":  {recorded + bare + wrapped, func(c *client.Client) ([]byte, api.Errno) { return c.Give(2, api.Reader) }},
		"Take":  {recorded + 32 + bare + wrapped, func(c *client.Client) ([]byte, api.Errno) { return c.Take(2, api.Key{4}) }},
	} {
		for _, room := range []int{0, 1, x.size - 1} {
			c := roomy(t, a, room)
			refused(t, what, c, api.ErrFull, func() ([]byte, api.Errno) { return x.do(c) })
		}
		c := roomy(t, a, x.size)
		if b, err := x.do(c); err != api.OK || len(c.Disk().Bytes()) != api.MaxDisk || c.Disk().Synced() != api.MaxDisk {
			t.Errorf("%s with just enough room: %d bytes, error %d", what, len(b), err)
		}
		refused(t, what+" of none", c, api.ErrFull, func() ([]byte, api.Errno) { return c.Write(0, 'y') })
	}
	// The ring's error comes ahead of the disk's.
	full := roomy(t, fullRing(t), 0)
	refused(t, "Take", full, api.ErrFull, func() ([]byte, api.Errno) { return full.Take(2, api.Key{4}) })
}

// An author has MaxBatch frames, and no more.
func TestMaxBatch(t *testing.T) {
	a := client.New(0, seed)
	for range 15 {
		done(t)(a.Take(1, drawOf(dot(0, a.Vector()[0]+1))))
	}
	for range api.MaxBatch - 15 {
		done(t)(a.Write(0, 'a'))
	}
	refused(t, "Write", a, api.ErrRange, func() ([]byte, api.Errno) { return a.Write(0, 'a') })
	refused(t, "Write of 0", a, api.ErrRange, func() ([]byte, api.Errno) { return a.Write(0, 0) })
	refused(t, "Give", a, api.ErrRange, func() ([]byte, api.Errno) { return a.Give(1, api.Writer) })
	refused(t, "Take", a, api.ErrFull, func() ([]byte, api.Errno) { return a.Take(1, api.Key{}) })
	if l := client.Load(0, seed, a.Disk()); !stateOf(l).alike(stateOf(a)) {
		t.Error("Load of it is another one")
	}
}

// P15.2: each stands behind the one ahead, of its own author.
func TestNumbersAndPrev(t *testing.T) {
	a, b := two(t, 1, api.Admin)
	var prev [2]api.Key
	var number [2]uint32
	prev[0], number[0] = a.Heads()[0].Sum, 1
	for i := range 6 {
		c, other := a, b
		if i%2 == 1 {
			c, other = b, a
		}
		var w []byte
		switch i / 2 {
		case 0:
			w = done(t)(c.Write(0, 'a'))
		case 1:
			w = done(t)(c.Give(2, api.Reader))
		case 2:
			w = done(t)(c.Take(2, api.Key{byte(i)}))
		}
		f, own := frameOf(t, w), c.Own()
		if f.Author != own || f.Number != number[own]+1 || f.Prev != prev[own] {
			t.Errorf("%d: author %d, number %d", i, f.Author, f.Number)
		}
		prev[own], number[own] = frame.Sum(f), f.Number
		receives(t, other, w)
	}
	if !slices.Equal(a.Ring().Epochs(), b.Ring().Epochs()) || len(a.Ring().Epochs()) != 3 {
		t.Error(a.Ring().Epochs(), b.Ring().Epochs())
	}
}

// DOC.md's second example: who loses its role hears of it, and can read nothing that comes behind it.
func TestWhoLosesItsRoleReadsNoMore(t *testing.T) {
	a, b := two(t, 1, api.Writer)
	receives(t, b, done(t)(a.Write(0, 'a')), done(t)(a.Take(1, api.Key{3})))
	if b.Members()[1] != api.NoRole {
		t.Error(b.Members())
	}
	asksEpochs(t, b, api.Dot{})
	later := done(t)(a.Write(1, 'b'))
	refuses(t, "behind the revoke", b, later, api.ErrKey)
	if _, err := frame.Open(b.Ring(), frameOf(t, later)); err != api.ErrKey {
		t.Error(err)
	}
	refused(t, "Write", b, api.ErrRole, func() ([]byte, api.Errno) { return b.Write(0, 'c') })
	asksText(t, b, "a")
	// Given anew it has the keys of all epochs.
	refuses(t, "behind a gap", b, done(t)(a.Give(1, api.Reader)), api.ErrGap)
	b, err := client.Restore(1, seed, 0, done(t)(a.Snapshot(1)))
	asks(t, "Restore", err, api.OK)
	asksText(t, b, "ab")
	asksEpochs(t, b, api.Dot{}, dot(0, 3))
	if _, there := keys.New(1, seed).Now(); there {
		t.Error("a ring at first has a key")
	}
}
