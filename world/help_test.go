package world_test

import (
	"reflect"
	"slices"
	"testing"

	"escritoire/api"
	"escritoire/client"
	"escritoire/frame"
	"escritoire/keys"
	"escritoire/wire"
	"escritoire/world"
)

var seed = api.Key{7, 31: 9}

// record is how many bytes a write takes on a disk: a frame's 223, its kind, its length and its sum.
const record = 234

// deeds are all that a step may do.
var deeds = []world.Do{world.Write, world.Erase, world.Give, world.Take, world.Deliver, world.Inject, world.Attest, world.Snapshot, world.Power}

// drawer draws numbers, the same ones every time.
type drawer uint64

func (d *drawer) below(n int) int {
	*d = *d*6364136223846793005 + 1442695040888963407
	return int(uint64(*d)>>33) % n
}

// known is all that a client tells of itself.
type known struct {
	text    string
	members [api.Authors]api.Role
	vector  api.Vector
	events  []api.Event
	proofs  []api.Proof
	heads   [api.Authors]api.Head
	log     [][]byte
	disk    []byte
	synced  int
}

func knownOf(c *client.Client) known {
	return known{
		text: string(c.Text()), members: c.Members(), vector: c.Vector(), events: append([]api.Event{}, c.Events()...),
		proofs: append([]api.Proof{}, c.Proofs()...), heads: c.Heads(), log: append([][]byte{}, c.Log()...),
		disk: append([]byte{}, c.Disk().Bytes()...), synced: c.Disk().Synced(),
	}
}

// state is all that a world tells, with its clients.
type state struct {
	clients [api.Authors]known
	relay   [][]byte
}

func stateOf(w *world.World) state {
	s := state{relay: append([][]byte{}, w.Relay()...)}
	for who := range s.clients {
		s.clients[who] = knownOf(w.Client(byte(who)))
	}
	return s
}

func (s state) alike(o state) bool { return reflect.DeepEqual(s, o) }

// does asks for an error of a step.
func does(t *testing.T, w *world.World, s world.Step, want api.Errno) {
	t.Helper()
	if err := w.Step(s); err != want {
		t.Fatalf("step %v: error %d instead of %d", s, err, want)
	}
}

// refuses asks for an error of a step, and that nothing has changed.
func refuses(t *testing.T, w *world.World, s world.Step, want api.Errno) {
	t.Helper()
	was := stateOf(w)
	if err := w.Step(s); err != want {
		t.Errorf("step %v: error %d instead of %d", s, err, want)
	}
	if !stateOf(w).alike(was) {
		t.Errorf("step %v: has changed something", s)
	}
}

func asksText(t *testing.T, w *world.World, who byte, want string) {
	t.Helper()
	if got := string(w.Text(who)); got != want {
		t.Errorf("text of %d: %q instead of %q", who, got, want)
	}
}

// written is a write that is a step.
func written(who byte, i int, x byte) world.Step {
	return world.Step{Do: world.Write, Who: who, I: i, X: x}
}

func given(who, other byte, role api.Role) world.Step {
	return world.Step{Do: world.Give, Who: who, Other: other, Role: role}
}

func delivered(who byte, i int) world.Step { return world.Step{Do: world.Deliver, Who: who, I: i} }

func snapped(who, other byte) world.Step {
	return world.Step{Do: world.Snapshot, Who: who, Other: other}
}

// pair is a world in which member 0 has given member 1 a role.
func pair(t *testing.T, role api.Role) *world.World {
	t.Helper()
	w := world.New(seed)
	does(t, w, given(0, 1, role), api.OK)
	does(t, w, delivered(1, 0), api.OK)
	return w
}

// hand makes frames of an author that keeps to no rule; it has the first epoch's key.
type hand struct {
	t    *testing.T
	ring *keys.Ring
	last api.Head
}

func handOf(t *testing.T, author byte) *hand {
	h := &hand{t: t, ring: keys.New(author, seed)}
	first, _ := keys.New(0, seed).Key(api.Dot{})
	h.ring.Add(api.Dot{}, first)
	return h
}

// says is the next frame under an epoch, of an event that saw so much; those behind it stand behind it.
func (h *hand) says(epoch api.Dot, wraps []api.Wrap, e api.Event, past ...uint32) []byte {
	h.t.Helper()
	own := h.ring.Own()
	e.Dot = api.Dot{Author: own, Seq: h.last.Count + 1}
	copy(e.Past[:], past)
	e.Past[own] = h.last.Count
	f, err := frame.Seal(h.ring, h.last.Count+1, h.last.Sum, epoch, wraps, e)
	if err != api.OK {
		h.t.Fatalf("Seal: error %d", err)
	}
	h.last = api.Head{Count: f.Number, Sum: frame.Sum(f)}
	b, _ := wire.Frame(f)
	return b
}

func first(c byte) api.Event { return api.Event{Kind: api.Insert, Right: true, Char: c} }

// filled injects frames into a client till its disk has room for fewer than so many bytes, at most 53 fewer: of member 5, who may do nothing, so that they have no force.
func filled(t *testing.T, w *world.World, who byte, room int) {
	t.Helper()
	h := handOf(t, 5)
	for {
		left := api.MaxDisk - len(w.Client(who).Disk().Bytes()) - room + 1
		if left <= 0 {
			return
		}
		// Each wrap takes 54 bytes; what is behind the last frame must have room for one.
		wraps := min(64, max(0, (left-record+53)/54))
		does(t, w, world.Step{Do: world.Inject, Who: who, Bytes: h.says(api.Dot{}, make([]api.Wrap, wraps), first('x'))}, api.OK)
	}
}

// spare is how much room there is on a client's disk.
func spare(w *world.World, who byte) int { return api.MaxDisk - len(w.Client(who).Disk().Bytes()) }

// scribble changes bytes, and the spare room behind them.
func scribble(l []byte) {
	l = l[:cap(l)]
	for i := range l {
		l[i] ^= 0x55
	}
}

func roomed(b []byte) (list, all []byte) {
	all = slices.Concat(b, []byte("spare room behind the end"))
	return all[:len(b)], all
}
