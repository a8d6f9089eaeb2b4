package client_test

import (
	"bytes"
	"encoding/binary"
	"slices"
	"testing"

	"escritoire/aead"
	"escritoire/api"
	"escritoire/client"
)

// laid are epochs with their keys, and frames, as a snapshot lays them out.
func laid(epochs [][]byte, frames [][]byte) []byte {
	b := []byte{byte(len(epochs))}
	for _, e := range epochs {
		b = append(b, e...)
	}
	b = binary.BigEndian.AppendUint16(b, uint16(len(frames)))
	for _, f := range frames {
		b = binary.BigEndian.AppendUint16(b, uint16(len(f)))
		b = append(b, f...)
	}
	return b
}

// epochOf is an epoch with its key.
func epochOf(epoch api.Dot, k api.Key) []byte { return epochRecord(epoch, k)[1:] }

// snapshotOf are bytes sealed as a snapshot of so many frames.
func snapshotOf(from, to byte, frames uint32, b []byte) []byte {
	head := four(frames)
	n := api.Nonce{from, to, 0, 0, head[0], head[1], head[2], head[3], 255, 255, 255, 255}
	k := client.New(0, seed).Ring().Pair(from, to)
	return slices.Concat(head, aead.Seal(k, n, head, b))
}

// restored is what Restore answers; a client with OK alone, and none of what was handed in has changed.
func restored(t *testing.T, what string, own, from byte, b []byte, want api.Errno) *client.Client {
	t.Helper()
	given, all := roomed(b)
	copied := slices.Clone(all)
	c, err := client.Restore(own, seed, from, given)
	asks(t, what, err, want)
	if (c != nil) != (want == api.OK) {
		t.Errorf("%s: a client %v, with error %d", what, c != nil, err)
	}
	if !bytes.Equal(all, copied) {
		t.Errorf("%s: what was handed in has changed", what)
	}
	return c
}

// some is member 0 with frames of both, an epoch more, and members 1 and 2.
func some(t *testing.T) (*client.Client, *client.Client) {
	t.Helper()
	a, b := two(t, 1, api.Writer)
	receives(t, b, done(t)(a.Write(0, 'a')), done(t)(a.Give(7, api.Reader)))
	receives(t, a, done(t)(b.Write(1, 'b')))
	receives(t, b, done(t)(a.Take(3, drawOf(dot(0, 4)))), done(t)(a.Write(2, 'c')))
	return a, b
}

// P15.6
func TestSnapshot(t *testing.T) {
	a, b := some(t)
	epochs := [][]byte{epochOf(api.Dot{}, first0()), epochOf(dot(0, 4), drawOf(dot(0, 4)))}
	for _, c := range []*client.Client{a, b} {
		for _, to := range []byte{0, 1, 7} {
			if to == c.Own() {
				continue
			}
			s := stateOf(c)
			got := done(t)(c.Snapshot(to))
			if want := snapshotOf(c.Own(), to, 6, laid(epochs, c.Log())); !bytes.Equal(got, want) {
				t.Errorf("Snapshot of %d for %d: %x", c.Own(), to, got)
			}
			if !stateOf(c).alike(s) {
				t.Error("Snapshot has changed something")
			}
		}
	}
	for _, x := range []struct {
		to   byte
		want api.Errno
	}{{8, api.ErrRange}, {255, api.ErrRange}, {0, api.ErrOwn}, {2, api.ErrRole}, {3, api.ErrRole}, {6, api.ErrRole}} {
		refused(t, "Snapshot", a, x.want, func() ([]byte, api.Errno) { return a.Snapshot(x.to) })
	}
	// Oneself has no role: ErrOwn comes first. One who has nothing snapshots nothing.
	n := client.New(5, seed)
	refused(t, "Snapshot for oneself without a role", n, api.ErrOwn, func() ([]byte, api.Errno) { return n.Snapshot(5) })
	if got := done(t)(n.Snapshot(0)); !bytes.Equal(got, snapshotOf(5, 0, 0, []byte{0, 0, 0})) {
		t.Errorf("Snapshot of nothing: %x", got)
	}
}

// P15.6, P15.8
func TestRestore(t *testing.T) {
	a, _ := some(t)
	for _, own := range []byte{1, 7} {
		s := done(t)(a.Snapshot(own))
		c := restored(t, "Restore", own, 0, s, api.OK)
		asksRestored(t, c, a)
		records := [][]byte{epochRecord(api.Dot{}, first0()), epochRecord(dot(0, 4), drawOf(dot(0, 4)))}
		for _, f := range a.Log() {
			records = append(records, frameRecord(f))
		}
		if !slices.EqualFunc(c.Disk().Records(), records, bytes.Equal) || c.Disk().Synced() != len(c.Disk().Bytes()) || !bytes.Equal(c.Disk().Bytes(), recordsOn(t, records...).Bytes()) {
			t.Error("the disk has other records, or they don't last")
		}
		if l := client.Load(own, seed, c.Disk()); !stateOf(l).alike(stateOf(c)) {
			t.Error("Load of its disk is another one")
		}
		scribble(s)
		asksRestored(t, c, a)
	}
	// Who begins later goes on from there.
	c := restored(t, "Restore", 1, 0, done(t)(a.Snapshot(1)), api.OK)
	receives(t, a, done(t)(c.Write(0, 'x')))
	asksText(t, a, "xabc")
	// Member 0 has the first epoch at first; it has a record all the same.
	c = restored(t, "Restore of member 0", 0, 1, done(t)(c.Snapshot(0)), api.OK)
	asksRestored(t, c, a)
	if l := c.Disk().Records(); len(l) != 9 || !bytes.Equal(l[0], epochRecord(api.Dot{}, first0())) {
		t.Errorf("%d records", len(l))
	}
	done(t)(c.Take(1, api.Key{8}))
}

// asksRestored asks that a client has what another one has.
func asksRestored(t *testing.T, c, a *client.Client) {
	t.Helper()
	s, w := stateOf(c), stateOf(a)
	w.own, w.disk, w.synced, w.proofs = s.own, s.disk, s.synced, nil
	if !s.alike(w) {
		t.Errorf("text %q, members %v, vector %v, epochs %v", s.text, s.members, s.vector, s.epochs)
	}
}

// P15.6: which error comes first.
func TestRestoreErrors(t *testing.T) {
	a, _ := some(t)
	good := done(t)(a.Snapshot(7))
	for _, x := range []struct {
		what      string
		own, from byte
		b         []byte
		want      api.Errno
	}{
		{"own 8", 8, 0, good, api.ErrRange},
		{"own 255", 255, 255, nil, api.ErrRange},
		{"from 8", 7, 8, good, api.ErrRange},
		{"from 255, of nothing", 7, 255, nil, api.ErrRange},
		{"own 8 from 8", 8, 8, nil, api.ErrRange},
		{"from oneself", 7, 7, good, api.ErrOwn},
		{"from oneself, of nothing", 7, 7, nil, api.ErrOwn},
		{"nil", 7, 0, nil, api.ErrForm},
		{"empty", 7, 0, []byte{}, api.ErrForm},
		{"3 bytes", 7, 0, good[:3], api.ErrForm},
		{"4 bytes", 7, 0, good[:4], api.ErrForm},
		{"19 bytes", 7, 0, good[:19], api.ErrForm},
		{"20 bytes", 7, 0, good[:20], api.ErrTag},
		{"a byte less", 7, 0, good[:len(good)-1], api.ErrTag},
		{"a byte more", 7, 0, append(slices.Clone(good), 0), api.ErrTag},
		{"sealed for another one", 1, 0, good, api.ErrTag},
		{"sealed by another one", 7, 1, good, api.ErrTag},
		{"turned round", 0, 7, good, api.ErrTag},
		{"as it is", 7, 0, good, api.OK},
	} {
		restored(t, x.what, x.own, x.from, x.b, x.want)
	}
	for _, i := range []int{0, 1, 2, 3, 4, 100, len(good) - 1} {
		bad := slices.Clone(good)
		bad[i]++
		restored(t, "a byte is another one", 7, 0, bad, api.ErrTag)
	}
	if c, err := client.Restore(7, api.Key{1}, 0, good); c != nil || err != api.ErrTag {
		t.Error("of another seed", err)
	}
}

// P15.6: bytes that open, but are not laid out so.
func TestRestoreOfAnotherLayout(t *testing.T) {
	a, _ := some(t)
	epochs := [][]byte{epochOf(api.Dot{}, first0()), epochOf(dot(0, 4), drawOf(dot(0, 4)))}
	good := laid(epochs, a.Log())
	restored(t, "by hand", 1, 0, snapshotOf(0, 1, 6, good), api.OK)
	restored(t, "of nothing at all", 1, 0, snapshotOf(0, 1, 0, laid(nil, nil)), api.OK)
	restored(t, "no bytes", 1, 0, snapshotOf(0, 1, 0, nil), api.ErrForm)
	restored(t, "one byte", 1, 0, snapshotOf(0, 1, 0, []byte{0}), api.ErrForm)
	restored(t, "two bytes", 1, 0, snapshotOf(0, 1, 0, []byte{0, 0}), api.ErrForm)
	restored(t, "four bytes", 1, 0, snapshotOf(0, 1, 0, []byte{0, 0, 0, 0}), api.ErrForm)
	for n := range len(good) {
		if _, err := client.Restore(1, seed, 0, snapshotOf(0, 1, 6, good[:n])); err != api.ErrForm {
			t.Fatalf("of %d bytes: error %d", n, err)
		}
	}
	restored(t, "bytes left behind", 1, 0, snapshotOf(0, 1, 6, append(slices.Clone(good), 0)), api.ErrForm)
	for _, n := range []uint32{0, 5, 7, 1 << 16, 1<<16 + 6, 1<<31 + 6} {
		restored(t, "another HEAD", 1, 0, snapshotOf(0, 1, n, good), api.ErrForm)
	}
	restored(t, "many epochs told", 1, 0, snapshotOf(0, 1, 0, []byte{255, 0, 0}), api.ErrForm)
	restored(t, "many frames told", 1, 0, snapshotOf(0, 1, 65535, []byte{0, 255, 255}), api.ErrForm)
	restored(t, "a long frame told", 1, 0, snapshotOf(0, 1, 1, []byte{0, 0, 1, 255, 255, 0}), api.ErrForm)
}

// P15.6: frames that can't be kept, and epochs that find no room.
func TestRestoreOfWhatCantBe(t *testing.T) {
	a, _ := some(t)
	log := a.Log()
	epochs := [][]byte{epochOf(api.Dot{}, first0()), epochOf(dot(0, 4), drawOf(dot(0, 4)))}
	one := epochs[:1]
	wrong := slices.Clone(log[0])
	wrong[100]++
	h := handOf(t, 0)
	for _, x := range []struct {
		what   string
		epochs [][]byte
		frames [][]byte
		want   api.Errno
	}{
		{"without keys, of a grant that has it", nil, log[:2], api.OK},
		{"without a key that a frame brings", one, log, api.OK},
		{"keys alone", epochs, nil, api.OK},
		{"a wrong tag", epochs, [][]byte{wrong}, api.ErrForm},
		{"no frame", epochs, [][]byte{log[0], []byte("no frame")}, api.ErrForm},
		{"an empty frame", epochs, [][]byte{{}}, api.ErrForm},
		{"a frame of 9000 bytes", epochs, [][]byte{make([]byte, 9000)}, api.ErrForm},
		{"twice", epochs, [][]byte{log[0], log[0]}, api.ErrForm},
		{"a gap", epochs, [][]byte{log[0], log[2]}, api.ErrForm},
		{"a fork", epochs, [][]byte{log[0], h.says(first('x'))}, api.ErrForm},
		{"an event that saw more", epochs, [][]byte{log[3]}, api.ErrForm},
		{"an epoch twice", [][]byte{epochs[0], epochs[1], epochOf(api.Dot{}, api.Key{1})}, log, api.OK},
		{"another key", [][]byte{epochOf(api.Dot{}, api.Key{1})}, log[:1], api.ErrForm},
	} {
		c := restored(t, x.what, 1, 0, snapshotOf(0, 1, uint32(len(x.frames)), laid(x.epochs, x.frames)), x.want)
		if c != nil && (len(c.Log()) != len(x.frames) || len(c.Disk().Records()) != len(x.epochs)+len(x.frames)) {
			t.Errorf("%s: %d frames, %d records", x.what, len(c.Log()), len(c.Disk().Records()))
		}
	}
	// For member 6 no frame brings one.
	restored(t, "without a key that is needed", 6, 0, snapshotOf(0, 6, 6, laid(one, log)), api.ErrForm)
	restored(t, "up to where it is needed", 6, 0, snapshotOf(0, 6, 5, laid(one, log[:5])), api.OK)
	restored(t, "without keys", 6, 0, snapshotOf(0, 6, 1, laid(nil, log[:1])), api.ErrForm)
}

// P15.6, P15.8: a ring has room for MaxEpoch epochs; member 0 has one at first.
func TestRestoreOfAFullRing(t *testing.T) {
	var epochs [][]byte
	for n := range uint32(api.MaxEpoch + 1) {
		epochs = append(epochs, epochOf(dot(1, n+1), drawOf(dot(1, n+1))))
	}
	some := func(own, from byte, l [][]byte, want api.Errno) *client.Client {
		return restored(t, "many epochs", own, from, snapshotOf(from, own, 0, laid(l, nil)), want)
	}
	some(2, 1, epochs[:api.MaxEpoch], api.OK)
	some(2, 1, epochs, api.ErrForm)
	some(0, 1, epochs[:api.MaxEpoch-1], api.OK)
	some(0, 1, epochs[:api.MaxEpoch], api.ErrForm)
	c := some(0, 1, slices.Concat([][]byte{epochOf(api.Dot{}, first0())}, epochs[:api.MaxEpoch-1]), api.OK)
	if n := len(c.Ring().Epochs()); n != api.MaxEpoch {
		t.Errorf("%d epochs", n)
	}
	// An epoch that is there needs no room.
	some(2, 1, append(slices.Clone(epochs[:api.MaxEpoch]), epochs[3]), api.OK)
	a := fullRing(t)
	done(t)(a.Give(1, api.Reader))
	asksRestored(t, restored(t, "a full ring", 1, 0, done(t)(a.Snapshot(1)), api.OK), a)
}

// filler are grants by member 0, with so many wraps that are nobody's each.
func filler(t *testing.T, wraps ...int) [][]byte {
	t.Helper()
	h := handOf(t, 0)
	var l [][]byte
	for _, n := range wraps {
		b := h.frame(api.Dot{}, make([]api.Wrap, n), h.event(grant(1, api.Reader)))
		h.follow(b)
		l = append(l, b)
	}
	return l
}

// P15.6: the disk's error; that one can't be comes ahead of it, wherever it stands.
func TestRestoreOnAFullDisk(t *testing.T) {
	e := epochOf(api.Dot{}, first0())
	restore := func(what string, epochs int, l [][]byte, want api.Errno) *client.Client {
		t.Helper()
		b := laid(slices.Repeat([][]byte{e}, epochs), l)
		return restored(t, what, 1, 0, snapshotOf(0, 1, uint32(len(l)), b), want)
	}
	// All records' lengths are multiples of 6, so that 4 bytes less than the disk has are the most that they take.
	counts := slices.Repeat([]int{64}, 17)
	fits := filler(t, append(slices.Clone(counts), 0, 0, 38)...)
	over := filler(t, append(slices.Clone(counts), 0, 0, 39)...)
	more := filler(t, append(slices.Clone(counts), 0, 0, 38, 0)...)
	c := restore("what fits", 1, fits, api.OK)
	if n := len(c.Disk().Bytes()); n != api.MaxDisk-4 {
		t.Fatalf("%d bytes", n)
	}
	refused(t, "Write", c, api.ErrRole, func() ([]byte, api.Errno) { return c.Write(0, 'a') })
	refuses(t, "one more", c, more[len(more)-1], api.ErrFull)
	restore("a wrap more", 1, over, api.ErrFull)
	restore("a frame more", 1, more, api.ErrFull)
	restore("an epoch more", 2, fits, api.ErrFull)
	restore("what does not fit, and can't be", 1, append(slices.Clone(over), over[0]), api.ErrForm)
	restore("what does not fit, and is no frame", 1, append(slices.Clone(over), []byte{1}), api.ErrForm)
	restore("what fits, and can't be", 1, append(slices.Clone(fits), fits[0]), api.ErrForm)
}
