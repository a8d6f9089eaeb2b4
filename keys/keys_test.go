package keys_test

import (
	"bytes"
	"crypto/hmac"
	"crypto/sha256"
	"encoding/hex"
	"math"
	"slices"
	"testing"

	"escritoire/aead"
	"escritoire/api"
	"escritoire/keys"
)

func dot(author byte, seq uint32) api.Dot { return api.Dot{Author: author, Seq: seq} }

// row is a key of 32 unlike bytes.
func row(first, step int) api.Key {
	var k api.Key
	for i := range k {
		k[i] = byte(first + i*step)
	}
	return k
}

var seed = row(1, 7)

func unhex(t *testing.T, s string) []byte {
	t.Helper()
	b, err := hex.DecodeString(s)
	if err != nil {
		t.Fatal(err)
	}
	return b
}

// plainKey is 32 bytes of mac.Expand, by the library: the Hmac of the bytes and a byte 1.
func plainKey(k api.Key, word string, more ...byte) api.Key {
	h := hmac.New(sha256.New, k[:])
	h.Write(append(append([]byte(word), more...), 1))
	return api.Key(h.Sum(nil))
}

// plainData is the chapter's words once more: a key, sealed for a member.
func plainData(seed api.Key, own, to byte, epoch api.Dot, k api.Key) [48]byte {
	less, greater := own, to
	if less > greater {
		less, greater = greater, less
	}
	s := epoch.Seq
	n := api.Nonce{own, to, epoch.Author, 0, byte(s >> 24), byte(s >> 16), byte(s >> 8), byte(s), 0, 0, 0, 0}
	return [48]byte(aead.Seal(plainKey(seed, "pair", less, greater), n, nil, k[:]))
}

func ring(t *testing.T, own byte, epochs ...api.Dot) *keys.Ring {
	t.Helper()
	r := keys.New(own, seed)
	if r == nil {
		t.Fatalf("New(%d) is nil", own)
	}
	add(t, r, epochs...)
	return r
}

// keyOf is the key that tests give an epoch.
func keyOf(epoch api.Dot) api.Key {
	return plainKey(api.Key{1}, "test", epoch.Author, byte(epoch.Seq>>24), byte(epoch.Seq>>16), byte(epoch.Seq>>8), byte(epoch.Seq))
}

func add(t *testing.T, r *keys.Ring, epochs ...api.Dot) {
	t.Helper()
	for _, d := range epochs {
		if err := r.Add(d, keyOf(d)); err != api.OK {
			t.Fatalf("Add(%v) = %d", d, err)
		}
	}
}

// many are so many epochs of author 7, none of them 0, 0.
func many(n int) []api.Dot {
	var l []api.Dot
	for i := range n {
		l = append(l, dot(7, uint32(i+1)))
	}
	return l
}

// holds asks that a ring has these epochs in this order, with these keys, and no other.
func holds(t *testing.T, r *keys.Ring, epochs []api.Dot, of ...api.Key) {
	t.Helper()
	if got := r.Epochs(); !slices.Equal(got, epochs) {
		t.Errorf("Epochs() = %v instead of %v", got, epochs)
	}
	for i, d := range epochs {
		if k, ok := r.Key(d); !ok || k != of[i] || !r.Has(d) {
			t.Errorf("Key(%v) = %x, %v instead of %x", d, k, ok, of[i])
		}
	}
	now, ok := r.Now()
	if len(epochs) == 0 && (ok || now != api.Dot{}) || len(epochs) > 0 && (!ok || now != epochs[len(epochs)-1]) {
		t.Errorf("Now() = %v, %v of %v", now, ok, epochs)
	}
}

// lacks asks that a ring has nothing of an epoch.
func lacks(t *testing.T, r *keys.Ring, epochs ...api.Dot) {
	t.Helper()
	for _, d := range epochs {
		if k, ok := r.Key(d); ok || k != (api.Key{}) || r.Has(d) {
			t.Errorf("Key(%v) = %x, %v", d, k, ok)
		}
	}
}

func keysOf(epochs []api.Dot) []api.Key {
	var l []api.Key
	for _, d := range epochs {
		l = append(l, keyOf(d))
	}
	return l
}

func wrap(t *testing.T, r *keys.Ring, to byte, epoch api.Dot) api.Wrap {
	t.Helper()
	w, err := r.Wrap(to, epoch)
	if err != api.OK {
		t.Fatalf("Wrap(%d, %v) = %d", to, epoch, err)
	}
	return w
}

func wrapFails(t *testing.T, r *keys.Ring, to byte, epoch api.Dot, want api.Errno) {
	t.Helper()
	if w, err := r.Wrap(to, epoch); err != want || w != (api.Wrap{}) {
		t.Errorf("Wrap(%d, %v) = %v, %d instead of %d", to, epoch, w, err, want)
	}
}

// unwrapFails asks that Unwrap has an error, and changes nothing.
func unwrapFails(t *testing.T, r *keys.Ring, from byte, w api.Wrap, want api.Errno) {
	t.Helper()
	was := r.Epochs()
	held, there := r.Key(w.Epoch)
	if err := r.Unwrap(from, w); err != want {
		t.Errorf("Unwrap(%d, %v) = %d instead of %d", from, w, err, want)
	}
	k, ok := r.Key(w.Epoch)
	if !slices.Equal(r.Epochs(), was) || k != held || ok != there {
		t.Errorf("Unwrap(%d, %v) changed something", from, w)
	}
}

func frameKeyFails(t *testing.T, r *keys.Ring, epoch api.Dot, author byte, want api.Errno) {
	t.Helper()
	if k, err := r.FrameKey(epoch, author); err != want || k != (api.Key{}) {
		t.Errorf("FrameKey(%v, %d) = %x, %d instead of %d", epoch, author, k, err, want)
	}
}

// P1
func TestNilRing(t *testing.T) {
	var r *keys.Ring
	for _, a := range []byte{0, 1, 7, 8, 255} {
		if r.Pair(a, 3) != (api.Key{}) || r.Pair(3, a) != (api.Key{}) || r.MacKey(a) != (api.Key{}) {
			t.Error("keys of a nil ring")
		}
		for _, d := range []api.Dot{{}, dot(0, 1), dot(255, math.MaxUint32)} {
			wrapFails(t, r, a, d, api.ErrNil)
			unwrapFails(t, r, a, api.Wrap{To: a, Epoch: d}, api.ErrNil)
			frameKeyFails(t, r, d, a, api.ErrNil)
			if r.Add(d, api.Key{1}) != api.ErrNil {
				t.Error("Add")
			}
			lacks(t, r, d)
		}
	}
	holds(t, r, nil)
	if r.Own() != 0 || r.Fork() != nil {
		t.Error("a nil ring answers something")
	}
}

// P11.1
func TestNew(t *testing.T) {
	for own := range 256 {
		r := keys.New(byte(own), seed)
		if (r == nil) != (own > 7) {
			t.Errorf("New(%d) = %v", own, r)
		}
		if own <= 7 && r.Own() != byte(own) {
			t.Errorf("Own() = %d of %d", r.Own(), own)
		}
	}
}

func TestFirstEpoch(t *testing.T) {
	for _, s := range []api.Key{seed, {}, {5}, row(255, 0)} {
		holds(t, keys.New(0, s), []api.Dot{{}}, plainKey(s, "epoch"))
		for own := byte(1); own < 8; own++ {
			r := keys.New(own, s)
			holds(t, r, nil)
			lacks(t, r, api.Dot{}, dot(own, 0), dot(own, 1))
		}
	}
}

// These keys, and the wraps further down, are another program's.
func TestKeysAsTold(t *testing.T) {
	r := ring(t, 0)
	first, _ := r.Key(api.Dot{})
	frames, _ := r.FrameKey(api.Dot{}, 4)
	for _, c := range []struct {
		name string
		got  api.Key
		want string
	}{
		{"epoch", first, "3589fc0760dd7204730aea70337c636622f496eaa5f3a4629b5b395cc1696829"},
		{"pair", r.Pair(0, 3), "52f927528ada209be904accfbd2f110e7cfd5d384090c61c0e51ca6319b1db45"},
		{"pair of one", r.Pair(3, 3), "bef2d2bbaabfbc40c41263fc0476fbaeae157ef763ec7bb74fba8d82ecc7a957"},
		{"mac", r.MacKey(2), "3de33424ded4bf1751d667ec2b2cb8529df001047a5cfbca062ac7db480be8ba"},
		{"frame", frames, "0306b4a3950c5a0b3dc84cafc11c63cab280c14f78344fbb0b32a6bffac195a4"},
	} {
		if hex.EncodeToString(c.got[:]) != c.want {
			t.Errorf("%s: %x instead of %s", c.name, c.got, c.want)
		}
	}
}

func TestPairsAndMacKeysAreTheChapters(t *testing.T) {
	for _, s := range []api.Key{seed, {}, {5}} {
		for own := range byte(8) {
			r := keys.New(own, s)
			for _, a := range []byte{0, 1, 2, 3, 4, 5, 6, 7, 8, 127, 128, 255} {
				if got := r.MacKey(a); got != plainKey(s, "mac", a) {
					t.Errorf("MacKey(%d) of %d: %x", a, own, got)
				}
				for _, b := range []byte{0, 1, 2, 3, 4, 5, 6, 7, 8, 127, 128, 255} {
					want := plainKey(s, "pair", min(a, b), max(a, b))
					if r.Pair(a, b) != want || r.Pair(b, a) != want {
						t.Errorf("Pair(%d, %d) of %d", a, b, own)
					}
				}
			}
		}
	}
}

func TestKeysOfASeedAreUnlike(t *testing.T) {
	r, known := ring(t, 0), map[api.Key]int{}
	first, _ := r.Key(api.Dot{})
	known[first]++
	for a := range byte(8) {
		known[r.MacKey(a)]++
		k, _ := r.FrameKey(api.Dot{}, a)
		known[k]++
		for b := range a + 1 {
			known[r.Pair(a, b)]++
		}
	}
	if len(known) != 1+8+8+36 || known[api.Key{}] != 0 {
		t.Errorf("%d keys", len(known))
	}
}

// P11.2
func TestAdd(t *testing.T) {
	epochs := []api.Dot{dot(7, 9), dot(0, 1), dot(3, 1), dot(7, 1), dot(3, 1<<20), dot(1, 0), dot(0, 9)}
	r := ring(t, 5)
	for i := range epochs {
		holds(t, r, epochs[:i], keysOf(epochs[:i])...)
		lacks(t, r, epochs[i:]...)
		add(t, r, epochs[i])
	}
	holds(t, r, epochs, keysOf(epochs)...)
	lacks(t, r, api.Dot{}, dot(0, 2), dot(2, 1), dot(9, 7), dot(7, 8))
}

func TestAddToTheFirstEpoch(t *testing.T) {
	r := ring(t, 0, dot(4, 4))
	holds(t, r, []api.Dot{{}, dot(4, 4)}, plainKey(seed, "epoch"), keyOf(dot(4, 4)))
	other := ring(t, 1, api.Dot{})
	holds(t, other, []api.Dot{{}}, keyOf(api.Dot{}))
}

// Add asks nothing of a dot or of a key.
func TestAddOfAnyDotAndKey(t *testing.T) {
	r := ring(t, 2)
	epochs := []api.Dot{dot(8, 1), dot(255, math.MaxUint32), dot(2, math.MaxUint32), dot(255, 0)}
	for _, d := range epochs {
		if err := r.Add(d, api.Key{}); err != api.OK {
			t.Error(d, err)
		}
	}
	holds(t, r, epochs, api.Key{}, api.Key{}, api.Key{}, api.Key{})
}

func TestAddOfWhatIsThere(t *testing.T) {
	r := ring(t, 0, dot(1, 1), dot(2, 2))
	epochs := []api.Dot{{}, dot(1, 1), dot(2, 2)}
	of := []api.Key{plainKey(seed, "epoch"), keyOf(dot(1, 1)), keyOf(dot(2, 2))}
	for i, d := range epochs {
		for _, k := range []api.Key{{}, {9}, of[i]} {
			if err := r.Add(d, k); err != api.ErrKnown {
				t.Errorf("Add(%v) = %d", d, err)
			}
			holds(t, r, epochs, of...)
		}
	}
}

func TestMaxEpoch(t *testing.T) {
	for own := range byte(2) {
		room := api.MaxEpoch - len(ring(t, own).Epochs())
		r := ring(t, own, many(room)...)
		epochs, of := many(room), keysOf(many(room))
		if own == 0 {
			epochs, of = append([]api.Dot{{}}, epochs...), append([]api.Key{plainKey(seed, "epoch")}, of...)
		}
		holds(t, r, epochs, of...)
		for _, d := range []api.Dot{dot(7, 100), dot(1, 1), dot(8, 0)} {
			if err := r.Add(d, api.Key{}); err != api.ErrFull {
				t.Errorf("Add(%v) = %d", d, err)
			}
			lacks(t, r, d)
		}
		// One that is there is known, be there room or not.
		for _, d := range epochs {
			if err := r.Add(d, api.Key{}); err != api.ErrKnown {
				t.Errorf("Add(%v) = %d", d, err)
			}
		}
		holds(t, r, epochs, of...)
	}
}

func TestWrapAsTold(t *testing.T) {
	r := ring(t, 5)
	epoch := dot(1, 0x01020304)
	r.Add(epoch, row(2, 3))
	for _, c := range []struct {
		got  api.Wrap
		to   byte
		d    api.Dot
		want string
	}{
		{wrap(t, ring(t, 0), 3, api.Dot{}), 3, api.Dot{}, "1146e911b4d87743e3474ded2cd57f930d126ec25e6e0284c916e60c5a37bb26f8cb24a7b51294a3cb609eff39fd18cc"},
		{wrap(t, r, 2, epoch), 2, epoch, "7a90d516c3b42a99d1d7bc817692e69e18b0dcc311eec9cd1fbed935d9b9da0255ec9c874278866e96ad86b1cb903cd5"},
	} {
		if c.got.To != c.to || c.got.Epoch != c.d || !bytes.Equal(c.got.Data[:], unhex(t, c.want)) {
			t.Errorf("%x instead of %s", c.got, c.want)
		}
	}
}

func TestWrapIsTheChapters(t *testing.T) {
	epochs := []api.Dot{dot(0, 1), dot(1, 0), dot(7, 1<<20), dot(8, 256), dot(255, math.MaxUint32), dot(0, 0x80000000), dot(0, 0x10000)}
	for own := range byte(8) {
		r := ring(t, own, epochs...)
		for to := range byte(8) {
			for _, d := range epochs {
				if to == own {
					continue
				}
				want := api.Wrap{To: to, Epoch: d, Data: plainData(seed, own, to, d, keyOf(d))}
				if got := wrap(t, r, to, d); got != want {
					t.Errorf("Wrap(%d, %v) of %d: %v instead of %v", to, d, own, got, want)
				}
			}
		}
		if got := r.Epochs(); !slices.Equal(got[len(got)-len(epochs):], epochs) {
			t.Errorf("Wrap changed the epochs: %v", got)
		}
	}
}

func TestWrapErrors(t *testing.T) {
	r := ring(t, 7, dot(1, 1))
	there, not := dot(1, 1), dot(1, 2)
	for _, to := range []byte{8, 9, 128, 255} {
		wrapFails(t, r, to, there, api.ErrRange)
		wrapFails(t, r, to, not, api.ErrRange)
	}
	wrapFails(t, r, 7, there, api.ErrOwn)
	wrapFails(t, r, 7, not, api.ErrOwn)
	for to := range byte(7) {
		wrapFails(t, r, to, not, api.ErrKey)
		wrapFails(t, r, to, api.Dot{}, api.ErrKey)
		wrap(t, r, to, there)
	}
	wrap(t, ring(t, 0), 7, api.Dot{})
	wrapFails(t, ring(t, 0), 0, api.Dot{}, api.ErrOwn)
	wrapFails(t, ring(t, 0), 8, api.Dot{}, api.ErrRange)
	holds(t, r, []api.Dot{there}, keyOf(there))
}

func TestUnwrapOfTheChapters(t *testing.T) {
	for own := range byte(8) {
		for from := range byte(8) {
			if from == own {
				continue
			}
			r := ring(t, own)
			epochs, of := r.Epochs(), []api.Key{}
			if own == 0 {
				of = append(of, plainKey(seed, "epoch"))
			}
			for _, d := range []api.Dot{dot(3, 1), dot(0, 0x01020304), dot(255, math.MaxUint32), dot(9, 0)} {
				w := api.Wrap{To: own, Epoch: d, Data: plainData(seed, from, own, d, keyOf(d))}
				if err := r.Unwrap(from, w); err != api.OK {
					t.Errorf("Unwrap(%d, %v) of %d = %d", from, d, own, err)
				}
				epochs, of = append(epochs, d), append(of, keyOf(d))
				holds(t, r, epochs, of...)
			}
		}
	}
}

func TestUnwrapOfOthers(t *testing.T) {
	d := dot(2, 300)
	a, b := ring(t, 6, d), ring(t, 7)
	w := wrap(t, a, 7, d)
	for _, from := range []byte{8, 9, 255} {
		unwrapFails(t, b, from, w, api.ErrRange)
	}
	unwrapFails(t, b, 7, w, api.ErrOwn)
	for from := range byte(6) {
		unwrapFails(t, b, from, w, api.ErrTag)
	}
	for to := range 256 {
		if to != 7 {
			other := w
			other.To = byte(to)
			unwrapFails(t, b, 6, other, api.ErrOwn)
		}
	}
	// One that another member may unwrap is for that one alone, though its To be changed.
	other := wrap(t, a, 5, d)
	other.To = 7
	unwrapFails(t, b, 6, other, api.ErrTag)
	// The sender's own one is no other one's, though the key of two is the same.
	back := wrap(t, a, 7, d)
	back.To = 6
	unwrapFails(t, ring(t, 6), 7, back, api.ErrTag)
	unwrapFails(t, keys.New(7, api.Key{5}), 6, w, api.ErrTag)
	if err := b.Unwrap(6, w); err != api.OK {
		t.Error(err)
	}
	holds(t, b, []api.Dot{d}, keyOf(d))
}

func TestEachBitOfAWrapCounts(t *testing.T) {
	d := dot(2, 300)
	w, b := wrap(t, ring(t, 6, d), 7, d), ring(t, 7)
	for i := range len(w.Data) * 8 {
		other := w
		other.Data[i/8] ^= 1 << (i % 8)
		unwrapFails(t, b, 6, other, api.ErrTag)
	}
	for i := range 8 {
		other := w
		other.Epoch.Author ^= 1 << i
		unwrapFails(t, b, 6, other, api.ErrTag)
	}
	for i := range 32 {
		other := w
		other.Epoch.Seq ^= 1 << i
		unwrapFails(t, b, 6, other, api.ErrTag)
	}
	unwrapFails(t, b, 6, api.Wrap{To: 7}, api.ErrTag)
	holds(t, b, nil)
}

// Each error stands ahead of all those behind it.
func TestUnwrapErrorsInOrder(t *testing.T) {
	there, next := dot(7, 1), dot(2, 2)
	b := ring(t, 7, many(api.MaxEpoch)...)
	wrong := func(to byte, d api.Dot) api.Wrap { return api.Wrap{To: to, Epoch: d} }
	unwrapFails(t, b, 8, wrong(3, there), api.ErrRange)
	unwrapFails(t, b, 8, wrong(7, there), api.ErrRange)
	unwrapFails(t, b, 8, wrong(7, next), api.ErrRange)
	unwrapFails(t, b, 7, wrong(3, there), api.ErrOwn)
	unwrapFails(t, b, 7, wrong(7, there), api.ErrOwn)
	unwrapFails(t, b, 7, wrong(7, next), api.ErrOwn)
	unwrapFails(t, b, 6, wrong(6, there), api.ErrOwn)
	unwrapFails(t, b, 6, wrong(8, there), api.ErrOwn)
	unwrapFails(t, b, 6, wrong(3, next), api.ErrOwn)
	unwrapFails(t, b, 6, wrong(7, there), api.ErrKnown)
	unwrapFails(t, b, 6, wrong(7, next), api.ErrTag)
	unwrapFails(t, b, 6, wrap(t, ring(t, 6, next), 7, next), api.ErrFull)
	unwrapFails(t, b, 6, wrap(t, ring(t, 6, there), 7, there), api.ErrKnown)
	holds(t, b, many(api.MaxEpoch), keysOf(many(api.MaxEpoch))...)
}

func TestUnwrapUpToMaxEpoch(t *testing.T) {
	a, b := ring(t, 1, many(api.MaxEpoch)...), ring(t, 2, dot(5, 5))
	l := many(api.MaxEpoch)
	for _, d := range l[:api.MaxEpoch-1] {
		if err := b.Unwrap(1, wrap(t, a, 2, d)); err != api.OK {
			t.Error(d, err)
		}
	}
	unwrapFails(t, b, 1, wrap(t, a, 2, l[api.MaxEpoch-1]), api.ErrFull)
	want := append([]api.Dot{dot(5, 5)}, l[:api.MaxEpoch-1]...)
	holds(t, b, want, keysOf(want)...)
}

// Member 0's first epoch is there from the beginning, whatever others say of it.
func TestUnwrapOfTheFirstEpoch(t *testing.T) {
	a, b := ring(t, 1, api.Dot{}), ring(t, 0)
	unwrapFails(t, b, 1, wrap(t, a, 0, api.Dot{}), api.ErrKnown)
	holds(t, b, []api.Dot{{}}, plainKey(seed, "epoch"))
}

// P11.3
func TestFrameKeyIsTheChapters(t *testing.T) {
	epochs := []api.Dot{dot(3, 1), dot(0, 4), dot(255, 0)}
	for own := range byte(8) {
		r := ring(t, own, epochs...)
		for author := range byte(8) {
			for _, d := range epochs {
				if k, err := r.FrameKey(d, author); err != api.OK || k != plainKey(keyOf(d), "frame", author) {
					t.Errorf("FrameKey(%v, %d) of %d: %x, %d", d, author, own, k, err)
				}
			}
		}
	}
	for author := range byte(8) {
		want := plainKey(plainKey(seed, "epoch"), "frame", author)
		if k, err := ring(t, 0).FrameKey(api.Dot{}, author); err != api.OK || k != want {
			t.Errorf("FrameKey of the first epoch, %d: %x, %d", author, k, err)
		}
	}
}

func TestFrameKeyErrors(t *testing.T) {
	r := ring(t, 3, dot(1, 1))
	for _, author := range []byte{8, 9, 255} {
		frameKeyFails(t, r, dot(1, 1), author, api.ErrRange)
		frameKeyFails(t, r, dot(1, 2), author, api.ErrRange)
	}
	for author := range byte(8) {
		frameKeyFails(t, r, dot(1, 2), author, api.ErrKey)
		frameKeyFails(t, r, api.Dot{}, author, api.ErrKey)
	}
}

func TestNonce(t *testing.T) {
	for n, want := range map[uint32]api.Nonce{
		0:              {},
		1:              {11: 1},
		255:            {11: 255},
		256:            {10: 1},
		258:            {10: 1, 11: 2},
		0x01020304:     {8: 1, 9: 2, 10: 3, 11: 4},
		0x80000000:     {8: 0x80},
		math.MaxUint32: {8: 255, 9: 255, 10: 255, 11: 255},
	} {
		if got := keys.Nonce(n); got != want {
			t.Errorf("Nonce(%d) = %v", n, got)
		}
	}
}

// P11.4, and the chapter's example
func TestExample(t *testing.T) {
	a, b := ring(t, 0), ring(t, 1)
	lacks(t, b, api.Dot{})
	if err := b.Unwrap(0, wrap(t, a, 1, api.Dot{})); err != api.OK || !b.Has(api.Dot{}) {
		t.Error(err)
	}
	holds(t, b, []api.Dot{{}}, plainKey(seed, "epoch"))
	holds(t, a, []api.Dot{{}}, plainKey(seed, "epoch"))
}

func TestWhatIsWrappedIsUnwrapped(t *testing.T) {
	for own := range byte(8) {
		for to := range byte(8) {
			if own == to {
				continue
			}
			a, b := ring(t, own, many(15)...), ring(t, to)
			for _, d := range a.Epochs() {
				if err := b.Unwrap(own, wrap(t, a, to, d)); err != api.OK && (to != 0 || d != api.Dot{}) {
					t.Errorf("%d to %d, %v: %d", own, to, d, err)
				}
				mine, _ := a.Key(d)
				its, ok := b.Key(d)
				if !ok || mine != its {
					t.Errorf("%d to %d, %v: %x instead of %x", own, to, d, its, mine)
				}
				of, _ := a.FrameKey(d, own)
				if k, err := b.FrameKey(d, own); k != of || err != api.OK {
					t.Errorf("%d to %d, %v: unlike frames' keys", own, to, d)
				}
			}
		}
	}
}

// What was unwrapped can be wrapped for the next one.
func TestTellOn(t *testing.T) {
	d := dot(4, 4)
	last := ring(t, 0, d)
	for next := byte(1); next < 8; next++ {
		r := ring(t, next)
		if err := r.Unwrap(next-1, wrap(t, last, next, d)); err != api.OK {
			t.Fatal(next, err)
		}
		holds(t, r, []api.Dot{d}, keyOf(d))
		last = r
	}
}

// P11.5
func TestUnlikeNumbersHaveUnlikeNonces(t *testing.T) {
	known := map[api.Nonce]uint32{}
	tell := func(n uint32) {
		nonce := keys.Nonce(n)
		if other, ok := known[nonce]; ok && other != n {
			t.Errorf("Nonce(%d) is Nonce(%d)", n, other)
		}
		known[nonce] = n
	}
	for n := range uint32(1 << 16) {
		tell(n)
		tell(n << 16)
		tell(math.MaxUint32 - n)
	}
	for i := range 32 {
		for j := range 32 {
			tell(1<<i | 1<<j)
		}
	}
}

// P3
func TestEpochsAreTheCallers(t *testing.T) {
	for _, n := range []int{0, 1, 2, 5, api.MaxEpoch} {
		r := ring(t, 4, many(n)...)
		one, other := r.Epochs(), r.Epochs()
		for i := range one[:cap(one)] {
			one[:cap(one)][i] = dot(200, 200)
		}
		if !slices.Equal(other, many(n)) {
			t.Errorf("%d: two answers are one list", n)
		}
		holds(t, r, many(n), keysOf(many(n))...)
		lacks(t, r, dot(200, 200))
		if n < api.MaxEpoch {
			other = r.Epochs()
			add(t, r, dot(5, 5))
			if !slices.Equal(other, many(n)) || slices.Contains(other[:cap(other)], dot(5, 5)) {
				t.Errorf("%d: an answer changes later", n)
			}
			_ = append(other, dot(9, 9))
			want := append(many(n), dot(5, 5))
			holds(t, r, want, keysOf(want)...)
		}
	}
}

// P4
func TestFork(t *testing.T) {
	for n := range api.MaxEpoch - 1 {
		r := ring(t, 3, many(n)...)
		f := r.Fork()
		holds(t, f, many(n), keysOf(many(n))...)
		if f == r || f.Own() != 3 || f.Pair(1, 2) != r.Pair(1, 2) || f.MacKey(1) != r.MacKey(1) {
			t.Errorf("%d: a fork that is another one", n)
		}
		if f.Add(dot(1, 1), api.Key{1}) != api.OK || r.Add(dot(2, 2), api.Key{2}) != api.OK {
			t.Fatal("Add")
		}
		if err := f.Unwrap(6, wrap(t, ring(t, 6, dot(2, 3)), 3, dot(2, 3))); err != api.OK {
			t.Fatal(err)
		}
		holds(t, f, append(many(n), dot(1, 1), dot(2, 3)), append(keysOf(many(n)), api.Key{1}, keyOf(dot(2, 3)))...)
		holds(t, r, append(many(n), dot(2, 2)), append(keysOf(many(n)), api.Key{2})...)
		lacks(t, f, dot(2, 2))
		lacks(t, r, dot(1, 1), dot(2, 3))
	}
}

// Forks of one, and of each other, have room of their own for what comes next.
func TestForksOfForks(t *testing.T) {
	r := ring(t, 0, many(4)...)
	all := []*keys.Ring{r, r.Fork(), r.Fork()}
	all = append(all, all[1].Fork())
	for i, f := range all {
		if err := f.Add(dot(1, 1), api.Key{byte(i + 1)}); err != api.OK {
			t.Fatal(err)
		}
		if err := f.Add(dot(byte(i), 50), api.Key{byte(i + 1)}); err != api.OK {
			t.Fatal(err)
		}
	}
	for i, f := range all {
		epochs := append(append([]api.Dot{{}}, many(4)...), dot(1, 1), dot(byte(i), 50))
		of := append(append([]api.Key{plainKey(seed, "epoch")}, keysOf(many(4))...), api.Key{byte(i + 1)}, api.Key{byte(i + 1)})
		holds(t, f, epochs, of...)
	}
}

// P6
func TestRingsAreOnTheirOwn(t *testing.T) {
	a, b := ring(t, 2), ring(t, 2)
	add(t, a, dot(1, 1))
	holds(t, b, nil)
	holds(t, ring(t, 2), nil)
	if wrap(t, a, 3, dot(1, 1)) != wrap(t, a, 3, dot(1, 1)) {
		t.Error("two wraps of one key are unlike")
	}
}
