package client_test

import (
	"encoding/binary"
	"reflect"
	"slices"
	"testing"

	"escritoire/aead"
	"escritoire/api"
	"escritoire/client"
	"escritoire/disk"
	"escritoire/frame"
	"escritoire/keys"
	"escritoire/mac"
	"escritoire/wire"
)

var seed = api.Key{7, 31: 9}

// bare is the length of a frame without wraps, wrapped how much each wrap adds, recorded what a record of a frame adds: its length, its sum and its kind.
const (
	bare     = 223
	wrapped  = 54
	recorded = 11
)

func dot(author byte, seq uint32) api.Dot { return api.Dot{Author: author, Seq: seq} }

// drawOf is a key, another one for each epoch.
func drawOf(epoch api.Dot) api.Key {
	return mac.Hmac([]byte("draw"), []byte{epoch.Author, byte(epoch.Seq >> 8), byte(epoch.Seq)})
}

// drawer draws numbers, the same ones every time.
type drawer uint64

func (d *drawer) below(n int) int {
	*d = *d*6364136223846793005 + 1442695040888963407
	return int(uint64(*d)>>33) % n
}

// state is all that a client tells of itself, and its ring.
type state struct {
	own     byte
	text    string
	members [api.Authors]api.Role
	vector  api.Vector
	events  []api.Event
	proofs  []api.Proof
	heads   [api.Authors]api.Head
	log     [][]byte
	disk    []byte
	synced  int
	epochs  []api.Dot
	keys    []api.Key
}

func stateOf(c *client.Client) state {
	s := state{
		own: c.Own(), text: string(c.Text()), members: c.Members(), vector: c.Vector(), events: c.Events(),
		proofs: c.Proofs(), heads: c.Heads(), log: c.Log(), disk: c.Disk().Bytes(), synced: c.Disk().Synced(),
	}
	for _, epoch := range c.Ring().Epochs() {
		k, _ := c.Ring().Key(epoch)
		s.epochs, s.keys = append(s.epochs, epoch), append(s.keys, k)
	}
	return s
}

// alike tells whether two are the same; a list may be nil, where it is empty.
func (s state) alike(o state) bool { return reflect.DeepEqual(s.filled(), o.filled()) }

// filled has empty lists where there are nil ones.
func (s state) filled() state {
	s.events = append([]api.Event{}, s.events...)
	s.proofs = append([]api.Proof{}, s.proofs...)
	s.log = append([][]byte{}, s.log...)
	s.disk = append([]byte{}, s.disk...)
	s.epochs = append([]api.Dot{}, s.epochs...)
	s.keys = append([]api.Key{}, s.keys...)
	return s
}

func asks(t *testing.T, what string, got, want api.Errno) {
	t.Helper()
	if got != want {
		t.Errorf("%s: error %d instead of %d", what, got, want)
	}
}

// done is what a call answered, which must have no error.
func done(t *testing.T) func([]byte, api.Errno) []byte {
	return func(b []byte, err api.Errno) []byte {
		t.Helper()
		if err != api.OK {
			t.Fatalf("error %d", err)
		}
		return b
	}
}

// refused asks for an error of an edit, for no bytes, and that nothing has changed.
func refused(t *testing.T, what string, c *client.Client, want api.Errno, do func() ([]byte, api.Errno)) {
	t.Helper()
	was := stateOf(c)
	b, err := do()
	asks(t, what, err, want)
	if len(b) != 0 {
		t.Errorf("%s: answers %d bytes", what, len(b))
	}
	if !stateOf(c).alike(was) {
		t.Errorf("%s: has changed something", what)
	}
}

// receives has a client take bytes, one behind the other.
func receives(t *testing.T, c *client.Client, l ...[]byte) {
	t.Helper()
	for i, b := range l {
		if err := c.Receive(b); err != api.OK {
			t.Fatalf("Receive of the %d-th: error %d", i, err)
		}
	}
}

// refuses asks for an error of Receive, and that nothing has changed but for the proofs, if there are new ones.
func refuses(t *testing.T, what string, c *client.Client, b []byte, want api.Errno, noted ...api.Proof) {
	t.Helper()
	s := stateOf(c)
	asks(t, what, c.Receive(b), want)
	s.proofs = append(s.proofs, noted...)
	if !stateOf(c).alike(s) {
		t.Errorf("%s: proofs %v, or something else has changed", what, c.Proofs())
	}
}

func asksText(t *testing.T, c *client.Client, want string) {
	t.Helper()
	if got := string(c.Text()); got != want {
		t.Errorf("text %q instead of %q", got, want)
	}
}

func asksEpochs(t *testing.T, c *client.Client, want ...api.Dot) {
	t.Helper()
	if got := c.Ring().Epochs(); !slices.Equal(got, want) {
		t.Errorf("epochs %v instead of %v", got, want)
	}
}

func frameOf(t *testing.T, b []byte) api.Frame {
	t.Helper()
	f, err := wire.ReadFrame(b)
	if err != api.OK {
		t.Fatalf("no frame: error %d", err)
	}
	return f
}

func bytesOf(t *testing.T, f api.Frame) []byte {
	t.Helper()
	b, err := wire.Frame(f)
	if err != api.OK {
		t.Fatalf("no bytes: error %d", err)
	}
	return b
}

// hand makes frames of an author that keeps to no rule.
type hand struct {
	t    *testing.T
	ring *keys.Ring
	last api.Head
}

// handOf has the first epoch's key, and those of others by drawOf.
func handOf(t *testing.T, author byte, epochs ...api.Dot) *hand {
	h := &hand{t: t, ring: keys.New(author, seed)}
	first, _ := keys.New(0, seed).Key(api.Dot{})
	h.ring.Add(api.Dot{}, first)
	for _, epoch := range epochs {
		h.ring.Add(epoch, drawOf(epoch))
	}
	return h
}

// event is the next one, of a kind, by what was seen of all.
func (h *hand) event(e api.Event, past ...uint32) api.Event {
	e.Dot = dot(h.ring.Own(), h.last.Count+1)
	copy(e.Past[:], past)
	e.Past[h.ring.Own()] = h.last.Count
	return e
}

// frame is the next one.
func (h *hand) frame(epoch api.Dot, wraps []api.Wrap, e api.Event) []byte {
	h.t.Helper()
	f, err := frame.Seal(h.ring, h.last.Count+1, h.last.Sum, epoch, wraps, e)
	if err != api.OK {
		h.t.Fatalf("Seal: error %d", err)
	}
	return bytesOf(h.t, f)
}

// says is the next frame, under the first epoch's key, of an event that saw so much; those behind it stand behind it.
func (h *hand) says(e api.Event, past ...uint32) []byte {
	h.t.Helper()
	b := h.frame(api.Dot{}, nil, h.event(e, past...))
	h.follow(b)
	return b
}

// follow stands behind a frame.
func (h *hand) follow(b []byte) {
	h.t.Helper()
	f := frameOf(h.t, b)
	h.last = api.Head{Count: f.Number, Sum: frame.Sum(f)}
}

// raw is the next frame, of any padded text and under any key, with its author's tag.
func (h *hand) raw(epoch api.Dot, k api.Key, wraps []api.Wrap, padded []byte) []byte {
	h.t.Helper()
	f := api.Frame{Author: h.ring.Own(), Number: h.last.Count + 1, Epoch: epoch, Prev: h.last.Sum, Wraps: wraps}
	f.Body = aead.Seal(k, keys.Nonce(f.Number), wire.Open(f), padded)
	return bytesOf(h.t, h.tagged(f))
}

// tagged is a frame with its author's tag.
func (h *hand) tagged(f api.Frame) api.Frame {
	k := h.ring.MacKey(f.Author)
	f.Mac = mac.Hmac(k[:], slices.Concat(wire.Open(f), f.Body))
	return f
}

func (h *hand) wrap(to byte, epoch api.Dot) api.Wrap {
	h.t.Helper()
	w, err := h.ring.Wrap(to, epoch)
	if err != api.OK {
		h.t.Fatalf("Wrap: error %d", err)
	}
	return w
}

func insert(parent api.Dot, right bool, c byte) api.Event {
	return api.Event{Kind: api.Insert, Parent: parent, Right: right, Char: c}
}

// first stands at the root's right.
func first(c byte) api.Event { return insert(api.Dot{}, true, c) }

func grant(who byte, role api.Role) api.Event {
	return api.Event{Kind: api.Grant, Who: who, Role: role}
}

func revoke(who byte) api.Event { return api.Event{Kind: api.Revoke, Who: who} }

// two are member 0, and a member that it gave a role, each of which has kept all.
func two(t *testing.T, other byte, role api.Role) (*client.Client, *client.Client) {
	t.Helper()
	a, b := client.New(0, seed), client.New(other, seed)
	receives(t, b, done(t)(a.Give(other, role)))
	return a, b
}

// roomy is a client's disk with a record of no kind at its end, that leaves so many bytes; the client is the same, since nothing is told by it.
func roomy(t *testing.T, c *client.Client, room int) *client.Client {
	t.Helper()
	d := c.Disk()
	for left := api.MaxDisk - len(d.Bytes()) - room; left > 0; left = api.MaxDisk - len(d.Bytes()) - room {
		size := min(left-10, 8000)
		// What is left for the next record must not be less than its head and its kind.
		if rest := left - 10 - size; rest > 0 && rest < 11 {
			size -= 11
		}
		data := make([]byte, size)
		data[0] = 9
		if err := d.Write(data); err != api.OK {
			t.Fatal(err)
		}
	}
	if got := api.MaxDisk - len(d.Bytes()); got != room {
		t.Fatalf("room for %d instead of %d", got, room)
	}
	full := client.Load(c.Own(), seed, d)
	if s, was := stateOf(full), stateOf(c); s.text != was.text || !reflect.DeepEqual(s.heads, was.heads) || !slices.Equal(s.epochs, was.epochs) {
		t.Fatal("a record of no kind has changed the client")
	}
	return full
}

// lastRecord is the last one on a client's disk, all of which must last.
func lastRecord(t *testing.T, c *client.Client) []byte {
	t.Helper()
	d := c.Disk()
	if d.Synced() != len(d.Bytes()) {
		t.Errorf("of %d bytes %d last", len(d.Bytes()), d.Synced())
	}
	l := d.Records()
	if len(l) == 0 {
		t.Fatal("no records")
	}
	return l[len(l)-1]
}

// recordsOn is a disk with records, all of which last.
func recordsOn(t *testing.T, l ...[]byte) *disk.Disk {
	t.Helper()
	d := disk.New()
	for _, r := range l {
		if err := d.Write(r); err != api.OK {
			t.Fatal(err)
		}
	}
	d.Sync()
	return d
}

func frameRecord(b []byte) []byte { return slices.Concat([]byte{0}, b) }

func drawRecord(k api.Key, b []byte) []byte { return slices.Concat([]byte{1}, k[:], b) }

func epochRecord(epoch api.Dot, k api.Key) []byte {
	return slices.Concat([]byte{2, epoch.Author}, four(epoch.Seq), k[:])
}

func four(n uint32) []byte { return binary.BigEndian.AppendUint32(nil, n) }

// roomed has spare room behind its end, in which bytes stand that must stay.
func roomed(b []byte) (list, all []byte) {
	all = slices.Concat(b, []byte("spare room behind the end"))
	return all[:len(b)], all
}
