package world_test

import (
	"bytes"
	"math"
	"slices"
	"testing"

	"escritoire/api"
	"escritoire/client"
	"escritoire/frame"
	"escritoire/keys"
	"escritoire/wire"
	"escritoire/world"
)

// P1
func TestNilWorld(t *testing.T) {
	var w *world.World
	for _, do := range append([]world.Do{world.Nothing, -1, 10}, deeds...) {
		for _, who := range []byte{0, 7, 8, 255} {
			if err := w.Step(world.Step{Do: do, Who: who, Other: 1, X: 'a', Role: api.Writer, Keep: -1}); err != api.ErrNil {
				t.Errorf("step %d of nil: error %d", do, err)
			}
		}
	}
	for _, who := range []byte{0, 7, 8, 255} {
		asksNothing(t, w, who, [api.Authors]api.Role{})
	}
	if len(w.Relay()) != 0 || w.Fork() != nil {
		t.Error("a nil world has something")
	}
}

func asksNothing(t *testing.T, w *world.World, who byte, members [api.Authors]api.Role) {
	t.Helper()
	if len(w.Text(who)) != 0 || w.Members(who) != members || w.Vector(who) != (api.Vector{}) || len(w.Events(who)) != 0 || len(w.Proofs(who)) != 0 {
		t.Errorf("%d knows something", who)
	}
}

// P16.1, P16.2
func TestNew(t *testing.T) {
	w := world.New(seed)
	for who := range byte(8) {
		asksNothing(t, w, who, [api.Authors]api.Role{api.Admin})
		if !stateOf(w).alike(stateOf(world.New(seed))) || w.Client(who).Own() != who {
			t.Error("another client")
		}
	}
	if len(w.Relay()) != 0 {
		t.Error("a relay has frames at first")
	}
	for range 3 {
		for _, who := range []byte{8, 9, 255} {
			asksNothing(t, w, who, [api.Authors]api.Role{})
		}
		does(t, w, written(0, 0, 'a'), api.OK)
	}
	// Clients are of the seed: another one's frames are nobody's.
	other := world.New(api.Key{8})
	does(t, other, given(0, 1, api.Writer), api.OK)
	refuses(t, w, world.Step{Do: world.Inject, Who: 1, Bytes: other.Relay()[0]}, api.ErrTag)
}

// P16.1: a step by none, about none, or that does nothing.
func TestStepsThatMayNotBe(t *testing.T) {
	w := pair(t, api.Admin)
	for _, do := range deeds {
		for _, x := range [][2]byte{{8, 0}, {0, 8}, {255, 1}, {1, 255}, {8, 8}} {
			refuses(t, w, world.Step{Do: do, Who: x[0], Other: x[1], X: 'a', Role: api.Writer, Keep: 500, Bytes: w.Relay()[0]}, api.ErrRange)
		}
	}
	for _, do := range []world.Do{world.Nothing, -1, math.MinInt, world.Power + 1, 11, math.MaxInt} {
		refuses(t, w, world.Step{Do: do, Who: 0, Other: 1, X: 'a', Role: api.Writer, Bytes: w.Relay()[0]}, api.ErrRange)
	}
	refuses(t, w, world.Step{}, api.ErrRange)
	// 7 is one.
	does(t, w, given(0, 7, api.Writer), api.OK)
	does(t, w, snapped(7, 0), api.OK)
	does(t, w, world.Step{Do: world.Write, Who: 7, Other: 7, X: 'a'}, api.OK)
	does(t, w, world.Step{Do: world.Attest, Who: 1, Other: 7}, api.OK)
}

// What steps are numbered.
func TestNumbersOfSteps(t *testing.T) {
	if world.Nothing != 0 {
		t.Error(world.Nothing)
	}
	for i, do := range deeds {
		if int(do) != i+1 {
			t.Errorf("%d instead of %d", do, i+1)
		}
	}
}

// P16.1: Write, Erase, Give, Take are the client's, and what it answers is the relay's.
func TestEdits(t *testing.T) {
	w := pair(t, api.Writer)
	for _, s := range []world.Step{
		written(0, 0, 'a'), written(1, 0, 'b'), {Do: world.Erase, Who: 0, I: 0}, given(0, 2, api.Reader),
		{Do: world.Take, Who: 0, Other: 2, Draw: api.Key{3}}, written(0, 0, 'c'), {Do: world.Erase, Who: 1, I: 0},
	} {
		c := w.Client(s.Who)
		var b []byte
		var err api.Errno
		switch s.Do {
		case world.Write:
			b, err = c.Write(s.I, s.X)
		case world.Erase:
			b, err = c.Erase(s.I)
		case world.Give:
			b, err = c.Give(s.Other, s.Role)
		case world.Take:
			b, err = c.Take(s.Other, s.Draw)
		}
		want := stateOf(w)
		want.clients[s.Who] = knownOf(c)
		want.relay = append(want.relay, b)
		does(t, w, s, err)
		if err != api.OK || !stateOf(w).alike(want) {
			t.Errorf("step %v is not the client's", s)
		}
	}
	for _, x := range []struct {
		s    world.Step
		want api.Errno
	}{
		{written(0, 9, 'a'), api.ErrRange},
		{written(0, -1, 'a'), api.ErrRange},
		{written(0, 0, 0), api.ErrRange},
		{written(2, 0, 'a'), api.ErrRole},
		{world.Step{Do: world.Erase, Who: 1, I: 0}, api.ErrRange},
		{given(0, 0, api.Writer), api.ErrOwn},
		{given(1, 0, api.Writer), api.ErrRole},
		{given(0, 1, 4), api.ErrRange},
		{world.Step{Do: world.Take, Who: 0, Other: 0}, api.ErrOwn},
		{world.Step{Do: world.Take, Who: 1, Other: 0}, api.ErrRole},
	} {
		refuses(t, w, x.s, x.want)
	}
}

// The chapter's example.
func TestChapterExample(t *testing.T) {
	w := world.New(seed)
	does(t, w, given(0, 1, api.Writer), api.OK)
	does(t, w, written(0, 0, 'a'), api.OK)
	refuses(t, w, delivered(1, 1), api.ErrGap)
	does(t, w, delivered(1, 0), api.OK)
	does(t, w, delivered(1, 1), api.OK)
	asksText(t, w, 1, "a")
	// Who is given a role later begins by a snapshot.
	does(t, w, given(0, 2, api.Reader), api.OK)
	refuses(t, w, delivered(2, 0), api.ErrKey)
	refuses(t, w, delivered(2, 2), api.ErrGap)
	does(t, w, snapped(2, 0), api.OK)
	asksText(t, w, 2, "a")
}

// DOC.md's first and third example, E1 and E2.
func TestExamplesOfTheWhole(t *testing.T) {
	w := pair(t, api.Writer)
	does(t, w, written(0, 0, 'a'), api.OK)
	does(t, w, written(1, 0, 'b'), api.OK)
	asksText(t, w, 0, "a")
	asksText(t, w, 1, "b")
	does(t, w, delivered(0, 2), api.OK)
	does(t, w, delivered(1, 1), api.OK)
	asksText(t, w, 0, "ab")
	asksText(t, w, 1, "ab")
	if w.Vector(0) != w.Vector(1) || w.Members(0) != w.Members(1) {
		t.Error("two of one text have other members")
	}
	does(t, w, given(0, 3, api.Reader), api.OK)
	does(t, w, snapped(3, 0), api.OK)
	asksText(t, w, 3, "ab")
}

// DOC.md's second example, E3.
func TestWhoLosesItsRole(t *testing.T) {
	w := pair(t, api.Writer)
	does(t, w, written(0, 0, 'a'), api.OK)
	does(t, w, delivered(1, 1), api.OK)
	// What member 1 writes ahead of hearing of it has force; what it writes behind it can't be.
	does(t, w, world.Step{Do: world.Take, Who: 0, Other: 1, Draw: api.Key{3}}, api.OK)
	does(t, w, written(1, 1, 'b'), api.OK)
	does(t, w, delivered(1, 2), api.OK)
	refuses(t, w, written(1, 0, 'c'), api.ErrRole)
	does(t, w, written(0, 0, 'd'), api.OK)
	refuses(t, w, delivered(1, 4), api.ErrKey)
	does(t, w, delivered(0, 3), api.OK)
	asksText(t, w, 0, "dab")
	asksText(t, w, 1, "ab")
	// A frame that it makes all the same, having seen it, has no force.
	h := handOf(t, 1)
	h.last = w.Client(1).Heads()[1]
	does(t, w, world.Step{Do: world.Inject, Who: 0, Bytes: h.says(api.Dot{}, nil, first('x'), 3)}, api.OK)
	asksText(t, w, 0, "dab")
	if w.Vector(0)[1] != 2 {
		t.Error(w.Vector(0))
	}
}

// P16.1: Deliver, at the edges of what there is.
func TestDeliver(t *testing.T) {
	w := world.New(seed)
	refuses(t, w, delivered(1, 0), api.ErrRange)
	does(t, w, given(0, 1, api.Writer), api.OK)
	does(t, w, written(0, 0, 'a'), api.OK)
	for _, i := range []int{-1, 2, 3, math.MinInt, math.MaxInt} {
		refuses(t, w, delivered(1, i), api.ErrRange)
	}
	refuses(t, w, delivered(0, 0), api.ErrOwn)
	does(t, w, delivered(1, 0), api.OK)
	refuses(t, w, delivered(1, 0), api.ErrKnown)
	was := len(w.Relay())
	does(t, w, delivered(1, 1), api.OK)
	if len(w.Relay()) != was {
		t.Error("what is delivered is handed to the relay once more")
	}
	asksText(t, w, 1, "a")
}

// P16.1, E7: Inject is Receive of any bytes; what is refused changes nothing.
func TestInject(t *testing.T) {
	w := pair(t, api.Writer)
	does(t, w, written(0, 0, 'a'), api.OK)
	good := w.Relay()[1]
	for _, b := range [][]byte{nil, {}, []byte("x"), good[:222], slices.Concat(good, []byte{0})} {
		refuses(t, w, world.Step{Do: world.Inject, Who: 1, Bytes: b}, api.ErrForm)
	}
	for i := range good {
		bad := slices.Clone(good)
		bad[i] ^= 4
		was := stateOf(w)
		if err := w.Step(world.Step{Do: world.Inject, Who: 1, Bytes: bad}); err == api.OK || !stateOf(w).alike(was) {
			t.Fatalf("byte %d: error %d, or something has changed", i, err)
		}
	}
	refuses(t, w, world.Step{Do: world.Inject, Who: 0, Bytes: good}, api.ErrOwn)
	list, all := roomed(good)
	copied := slices.Clone(all)
	does(t, w, world.Step{Do: world.Inject, Who: 1, Bytes: list}, api.OK)
	if !bytes.Equal(all, copied) || len(w.Relay()) != 2 {
		t.Error("what was injected has changed, or is the relay's")
	}
	s := stateOf(w)
	scribble(all)
	if !stateOf(w).alike(s) {
		t.Error("what was injected is kept")
	}
	refuses(t, w, world.Step{Do: world.Inject, Who: 1, Bytes: good}, api.ErrKnown)
}

// P16.1, E4: Attest finds two tales out.
func TestAttest(t *testing.T) {
	w := pair(t, api.Writer)
	does(t, w, given(0, 2, api.Reader), api.OK)
	does(t, w, snapped(2, 0), api.OK)
	does(t, w, delivered(1, 1), api.OK)
	attest := func(who, other byte) world.Step { return world.Step{Do: world.Attest, Who: who, Other: other} }
	for who := range byte(8) {
		for other := range byte(8) {
			want := api.OK
			if who == other {
				want = api.ErrOwn
			}
			refuses(t, w, attest(who, other), want)
		}
	}
	// Member 0 tells 1 and 2 unlike tales.
	h := handOf(t, 0)
	h.last = w.Client(0).Heads()[0]
	g := *h
	does(t, w, world.Step{Do: world.Inject, Who: 1, Bytes: h.says(api.Dot{}, nil, first('x'))}, api.OK)
	does(t, w, world.Step{Do: world.Inject, Who: 2, Bytes: g.says(api.Dot{}, nil, first('y'))}, api.OK)
	refuses(t, w, attest(1, 0), api.OK)
	does(t, w, attest(1, 2), api.ErrFork)
	want := []api.Proof{{Author: 0, Number: 3, A: h.last.Sum, B: g.last.Sum}}
	if !slices.Equal(w.Proofs(1), want) || len(w.Proofs(2)) != 0 || len(w.Proofs(0)) != 0 {
		t.Error(w.Proofs(1), w.Proofs(2))
	}
	refuses(t, w, attest(1, 2), api.ErrFork)
	does(t, w, attest(2, 1), api.ErrFork)
	does(t, w, attest(3, 2), api.OK)
	// Of frames, too: both tales are noted.
	does(t, w, written(0, 0, 'z'), api.OK)
	does(t, w, delivered(1, 2), api.ErrFork)
	sum := w.Client(0).Heads()[0].Sum
	if !slices.Equal(w.Proofs(1), append(want, api.Proof{Author: 0, Number: 3, A: h.last.Sum, B: sum})) {
		t.Error(w.Proofs(1))
	}
}

// P16.1: Snapshot, and which error comes first.
func TestSnapshot(t *testing.T) {
	w := pair(t, api.Writer)
	does(t, w, written(0, 0, 'a'), api.OK)
	does(t, w, written(1, 0, 'b'), api.OK)
	refuses(t, w, snapped(1, 0), api.ErrRange)
	refuses(t, w, snapped(0, 1), api.ErrRange)
	refuses(t, w, snapped(0, 2), api.ErrRange)
	refuses(t, w, snapped(2, 0), api.ErrRole)
	refuses(t, w, snapped(0, 0), api.ErrOwn)
	refuses(t, w, snapped(2, 2), api.ErrOwn)
	does(t, w, delivered(0, 2), api.OK)
	// Who has all of it, and the role.
	c, err := w.Client(0).Snapshot(1)
	if err != api.OK {
		t.Fatal(err)
	}
	r, _ := client.Restore(1, seed, 0, c)
	want := stateOf(w)
	want.clients[1] = knownOf(r)
	does(t, w, snapped(1, 0), api.OK)
	if !stateOf(w).alike(want) {
		t.Error("Who is not Restore of the snapshot")
	}
	asksText(t, w, 1, "ab")
	does(t, w, snapped(1, 0), api.OK)
	does(t, w, written(1, 2, 'c'), api.OK)
	does(t, w, delivered(0, 3), api.OK)
	asksText(t, w, 0, "abc")
	does(t, w, snapped(0, 1), api.OK)
	does(t, w, written(0, 3, 'd'), api.OK)
	does(t, w, delivered(1, 4), api.OK)
	asksText(t, w, 1, "abcd")
	// One that has nothing has a snapshot of nothing, for who has a role and nothing either.
	v := world.New(seed)
	does(t, v, snapped(0, 5), api.OK)
	refuses(t, v, snapped(5, 0), api.ErrRole)
	if len(v.Relay()) != 0 {
		t.Error("a snapshot is the relay's")
	}
}

// A snapshot forgets proofs.
func TestSnapshotForgetsProofs(t *testing.T) {
	w := pair(t, api.Writer)
	h := handOf(t, 0)
	does(t, w, world.Step{Do: world.Inject, Who: 1, Bytes: h.says(api.Dot{}, nil, first('x'))}, api.ErrFork)
	if len(w.Proofs(1)) != 1 {
		t.Fatal(w.Proofs(1))
	}
	does(t, w, snapped(1, 0), api.OK)
	if len(w.Proofs(1)) != 0 {
		t.Error(w.Proofs(1))
	}
}

// P16.1: Restore's errors: no room on a disk, and none in a ring.
func TestSnapshotThatFindsNoRoom(t *testing.T) {
	w := pair(t, api.Writer)
	filled(t, w, 0, 48)
	if n := spare(w, 0); n < 0 || n >= 48 {
		t.Fatal(n)
	}
	// The snapshot has a record for the epoch, too.
	refuses(t, w, snapped(1, 0), api.ErrFull)
	// Member 1 has 16 epochs, and not the first one: member 0 has no room for them.
	w = world.New(seed)
	h := handOf(t, 0)
	var wraps []api.Wrap
	for n := range uint32(api.MaxEpoch) {
		ring := handOf(t, 0).ring
		epoch := api.Dot{Author: 0, Seq: n + 1}
		ring.Add(epoch, api.Key{byte(n)})
		wrap, _ := ring.Wrap(1, epoch)
		wraps = append(wraps, wrap)
	}
	h.ring.Add(api.Dot{Author: 0, Seq: 1}, api.Key{0})
	does(t, w, world.Step{Do: world.Inject, Who: 1, Bytes: h.says(api.Dot{Author: 0, Seq: 1}, wraps, api.Event{Kind: api.Grant, Who: 2, Role: api.Writer})}, api.OK)
	refuses(t, w, snapped(0, 1), api.ErrForm)
	does(t, w, snapped(2, 1), api.OK)
}

// P16.1, P16.5, E5: the power goes, and of the record so many bytes are kept.
func TestPower(t *testing.T) {
	for keep := range record + 3 {
		asksPower(t, keep)
	}
	for _, keep := range []int{500, 1 << 20, math.MaxInt} {
		asksPower(t, keep)
	}
}

func asksPower(t *testing.T, keep int) {
	t.Helper()
	w := pair(t, api.Writer)
	does(t, w, written(1, 0, 'b'), api.OK)
	want, wrote := stateOf(w), w.Fork()
	does(t, wrote, written(1, 1, 'p'), api.OK)
	err := api.ErrNone
	if keep >= record {
		err, want = api.OK, stateOf(wrote)
	}
	does(t, w, world.Step{Do: world.Power, Who: 1, I: 1, X: 'p', Keep: keep}, err)
	if !stateOf(w).alike(want) {
		t.Fatalf("Keep of %d: the world is another one", keep)
	}
	// What can be written behind it goes on from there, and lasts.
	does(t, w, written(1, 0, 'q'), api.OK)
	does(t, w, world.Step{Do: world.Power, Who: 1, I: 0, X: 'r', Keep: 0}, api.ErrNone)
	text := "qb"
	if keep >= record {
		text = "qbp"
	}
	asksText(t, w, 1, text)
	for i := 1; i < len(w.Relay()); i++ {
		does(t, w, delivered(0, i), api.OK)
	}
	asksText(t, w, 0, text)
	if len(w.Proofs(0)) != 0 || w.Vector(0) != w.Vector(1) {
		t.Fatal("what went with the power was told")
	}
}

// P16.1: which error of Power comes first, and that nothing changes with it.
func TestPowerErrors(t *testing.T) {
	w := pair(t, api.Writer)
	power := func(who byte, i int, x byte, keep int) world.Step {
		return world.Step{Do: world.Power, Who: who, I: i, X: x, Keep: keep}
	}
	refuses(t, w, power(1, 0, 'a', -1), api.ErrRange)
	refuses(t, w, power(1, 0, 'a', math.MinInt), api.ErrRange)
	refuses(t, w, power(2, 0, 'a', -1), api.ErrRange)
	refuses(t, w, power(2, 0, 'a', 0), api.ErrRole)
	refuses(t, w, power(2, 0, 'a', 500), api.ErrRole)
	refuses(t, w, power(1, 1, 'a', 500), api.ErrRange)
	refuses(t, w, power(1, -1, 'a', 0), api.ErrRange)
	refuses(t, w, power(1, 0, 0, 500), api.ErrRange)
	refuses(t, w, power(1, 0, 128, 0), api.ErrRange)
	// Without a Power nothing of Keep is asked.
	s := written(1, 0, 'a')
	s.Keep = -5
	does(t, w, s, api.OK)
	filled(t, w, 1, 2*record)
	does(t, w, power(1, 0, 'b', record-1), api.ErrNone)
	if n := spare(w, 1); n < record || n >= 2*record {
		t.Fatal(n)
	}
	does(t, w, power(1, 0, 'b', record), api.OK)
	refuses(t, w, power(1, 0, 'c', record), api.ErrFull)
	refuses(t, w, power(1, 0, 'c', 0), api.ErrFull)
	refuses(t, w, written(1, 0, 'c'), api.ErrFull)
	refuses(t, w, power(1, 0, 'c', -1), api.ErrRange)
}

// Behind a Power proofs are forgotten, also where the write is.
func TestPowerForgetsProofs(t *testing.T) {
	for _, keep := range []int{0, record} {
		w := pair(t, api.Writer)
		h := handOf(t, 0)
		does(t, w, world.Step{Do: world.Inject, Who: 1, Bytes: h.says(api.Dot{}, nil, first('x'))}, api.ErrFork)
		if len(w.Proofs(1)) != 1 {
			t.Fatal(w.Proofs(1))
		}
		w.Step(world.Step{Do: world.Power, Who: 1, X: 'a', Keep: keep})
		if len(w.Proofs(1)) != 0 {
			t.Error(w.Proofs(1))
		}
	}
}

// P16.6, E6: frames that write are as long, whatever and wherever; of others as many wraps tell their length.
func TestNothingToldByLengths(t *testing.T) {
	w := pair(t, api.Admin)
	for x := byte(1); x < 128; x++ {
		n := len(w.Text(1))
		does(t, w, written(1, int(x)*7%(n+1), x), api.OK)
	}
	does(t, w, world.Step{Do: world.Power, Who: 1, I: 3, X: 'x', Keep: 1000}, api.OK)
	does(t, w, world.Step{Do: world.Erase, Who: 1, I: 5}, api.OK)
	for i, b := range w.Relay()[1:] {
		if len(b) != 223 {
			t.Errorf("the %d-th is %d bytes", i+1, len(b))
		}
	}
	// Nothing of what is written is to be seen.
	a, b := world.New(seed), world.New(seed)
	does(t, a, written(0, 0, 'a'), api.OK)
	does(t, b, written(0, 0, 'b'), api.OK)
	f, _ := wire.ReadFrame(a.Relay()[0])
	g, _ := wire.ReadFrame(b.Relay()[0])
	if bytes.Equal(f.Body, g.Body) || !bytes.Equal(wire.Open(f), wire.Open(g)) {
		t.Error("what is open tells of what is not")
	}
	if _, err := frame.Open(keys.New(2, seed), f); err != api.ErrKey {
		t.Error(err)
	}
}

// P3
func TestAnswersAreTheCallers(t *testing.T) {
	w := pair(t, api.Writer)
	does(t, w, written(0, 0, 'a'), api.OK)
	h := handOf(t, 0)
	does(t, w, world.Step{Do: world.Inject, Who: 1, Bytes: h.says(api.Dot{}, nil, first('x'))}, api.ErrFork)
	was := stateOf(w)
	l, again := w.Relay(), w.Relay()
	for _, b := range l {
		scribble(b)
	}
	if bytes.Equal(l[0], again[0]) {
		t.Error("two answers lie in one place")
	}
	scribble(w.Text(0))
	clear(w.Events(0))
	clear(w.Proofs(1))
	clear(w.Relay())
	if !stateOf(w).alike(was) {
		t.Error("what was answered is kept")
	}
	does(t, w, delivered(1, 1), api.OK)
}

// P4
func TestFork(t *testing.T) {
	w := pair(t, api.Writer)
	does(t, w, written(0, 0, 'a'), api.OK)
	h := handOf(t, 0)
	h.last = w.Client(1).Heads()[0]
	for _, s := range []world.Step{
		written(0, 0, 'b'), written(1, 0, 'b'), {Do: world.Erase, Who: 0, I: 0}, given(0, 2, api.Reader),
		{Do: world.Take, Who: 0, Other: 1, Draw: api.Key{1}}, delivered(1, 1), snapped(1, 0),
		{Do: world.Inject, Who: 1, Bytes: h.says(api.Dot{}, nil, first('z'))},
		{Do: world.Power, Who: 1, X: 'p', Keep: 1000},
	} {
		was := stateOf(w)
		f := w.Fork()
		if !stateOf(f).alike(was) {
			t.Fatal("a Fork is another one")
		}
		does(t, f, s, api.OK)
		if !stateOf(w).alike(was) || stateOf(f).alike(was) {
			t.Errorf("step %v of a Fork changes the world, or nothing", s)
		}
		v := w.Fork()
		f = v.Fork()
		does(t, v, s, api.OK)
		if !stateOf(f).alike(was) {
			t.Errorf("step %v of a world changes its Fork", s)
		}
		// Both go on, and neither takes the other one's room.
		f, v = w.Fork(), w.Fork()
		does(t, f, written(0, 0, 'f'), api.OK)
		wasF := stateOf(f)
		does(t, v, s, api.OK)
		if !stateOf(f).alike(wasF) {
			t.Errorf("step %v of a Fork changes another one", s)
		}
	}
}

// P4, however much room there is behind the relay's frames.
func TestForksOfAnyLength(t *testing.T) {
	w := world.New(seed)
	for range 20 {
		does(t, w, written(0, 0, 'a'), api.OK)
		f, g := w.Fork(), w.Fork()
		does(t, f, written(0, 0, 'f'), api.OK)
		was := stateOf(f)
		does(t, g, written(0, 0, 'g'), api.OK)
		if !stateOf(f).alike(was) {
			t.Fatalf("a Fork of %d frames changes another one", len(w.Relay()))
		}
	}
}
