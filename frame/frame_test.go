package frame_test

import (
	"bytes"
	"crypto/hmac"
	"crypto/sha256"
	"encoding/binary"
	"encoding/hex"
	"math"
	"slices"
	"testing"

	"escritoire/aead"
	"escritoire/api"
	"escritoire/frame"
	"escritoire/keys"
	"escritoire/wire"
)

// maxSealed is how long a Body may be.
const maxSealed = 4096 + 16

func dot(author byte, seq uint32) api.Dot { return api.Dot{Author: author, Seq: seq} }

// row is a key of 32 unlike bytes.
func row(first, step int) api.Key {
	var k api.Key
	for i := range k {
		k[i] = byte(first + i*step)
	}
	return k
}

var (
	seed  = row(1, 7)
	epoch = dot(1, 0x01020304)
)

// ring has the epoch.
func ring(t *testing.T, own byte) *keys.Ring {
	t.Helper()
	r := keys.New(own, seed)
	if err := r.Add(epoch, row(2, 3)); err != api.OK {
		t.Fatal(err)
	}
	return r
}

func unhex(t *testing.T, s string) []byte {
	t.Helper()
	b, err := hex.DecodeString(s)
	if err != nil {
		t.Fatal(err)
	}
	return b
}

// told gives an event a dot, and the past that fits to it.
func told(e api.Event, author byte, number uint32, past ...uint32) api.Event {
	e.Dot = dot(author, number)
	copy(e.Past[:], past)
	e.Past[author] = number - 1
	return e
}

func insert(author byte, number uint32) api.Event {
	return told(api.Event{Kind: api.Insert, Right: true, Char: 'a'}, author, number)
}

// kinds are right events of every kind, of one dot.
func kinds(author byte, number uint32) []api.Event {
	other := (author + 1) % 8
	past := [8]uint32{}
	past[other] = 1 << 20
	var l []api.Event
	for _, e := range []api.Event{
		{Kind: api.Insert, Right: true, Char: 1},
		{Kind: api.Insert, Parent: dot(other, 1<<20), Char: 127},
		{Kind: api.Insert, Parent: dot(other, 1), Right: true, Char: 'b'},
		{Kind: api.Delete, Parent: dot(other, 77)},
		{Kind: api.Grant, Who: 7, Role: api.Reader},
		{Kind: api.Grant, Role: api.Writer},
		{Kind: api.Grant, Who: author, Role: api.Admin},
		{Kind: api.Revoke, Who: 7},
		{Kind: api.Revoke},
	} {
		l = append(l, told(e, author, number, past[:]...))
	}
	return l
}

// someWraps are so many, all unlike.
func someWraps(n int) []api.Wrap {
	var l []api.Wrap
	for i := range n {
		w := api.Wrap{To: byte(i), Epoch: dot(byte(i*3), uint32(i)*0x01010101)}
		for j := range w.Data {
			w.Data[j] = byte(i + j*5)
		}
		l = append(l, w)
	}
	return l
}

func plainHmac(k api.Key, b ...byte) api.Key {
	h := hmac.New(sha256.New, k[:])
	h.Write(b)
	return api.Key(h.Sum(nil))
}

// plainOpen is what a frame tells openly, by the words of chapter 6.
func plainOpen(f api.Frame) []byte {
	b := binary.BigEndian.AppendUint32([]byte{0x45, 0x53, f.Author}, f.Number)
	b = binary.BigEndian.AppendUint32(append(b, f.Epoch.Author), f.Epoch.Seq)
	b = append(append(b, f.Prev[:]...), byte(len(f.Wraps)))
	for _, w := range f.Wraps {
		b = binary.BigEndian.AppendUint32(append(b, w.To, w.Epoch.Author), w.Epoch.Seq)
		b = append(b, w.Data[:]...)
	}
	return b
}

// tagged is a frame with the tag that its author, by the seed, would put on it.
func tagged(f api.Frame) api.Frame {
	f.Mac = plainHmac(plainHmac(seed, 'm', 'a', 'c', f.Author, 1), append(plainOpen(f), f.Body...)...)
	return f
}

// bodyOf seals bytes of any kind as the Body of a frame, under an epoch's key, and tags it.
func bodyOf(f api.Frame, of api.Key, b []byte) api.Frame {
	n := api.Nonce{8: byte(f.Number >> 24), 9: byte(f.Number >> 16), 10: byte(f.Number >> 8), 11: byte(f.Number)}
	f.Body = aead.Seal(plainHmac(of, 'f', 'r', 'a', 'm', 'e', f.Author, 1), n, plainOpen(f), b)
	return tagged(f)
}

// padded are an event's bytes, filled up to 128.
func padded(e api.Event) []byte {
	b := append([]byte{0, 58}, wire.Event(e)...)
	return append(b, make([]byte, 128-len(b))...)
}

// plainSeal is the chapter's words once more.
func plainSeal(own byte, number uint32, prev api.Key, d api.Dot, of api.Key, wraps []api.Wrap, e api.Event) api.Frame {
	f := api.Frame{Author: own, Number: number, Epoch: d, Prev: prev, Wraps: wraps}
	return bodyOf(f, of, padded(e))
}

func seal(t *testing.T, r *keys.Ring, number uint32, wraps []api.Wrap, e api.Event) api.Frame {
	t.Helper()
	f, err := frame.Seal(r, number, row(100, 1), epoch, wraps, e)
	if err != api.OK {
		t.Fatalf("Seal of %d, %v: %d", number, e, err)
	}
	return f
}

func sealFails(t *testing.T, r *keys.Ring, number uint32, d api.Dot, wraps []api.Wrap, e api.Event, want api.Errno) {
	t.Helper()
	f, err := frame.Seal(r, number, row(100, 1), d, wraps, e)
	if err != want || !wire.SameFrame(f, api.Frame{}) {
		t.Errorf("Seal of %d, %v, %d wraps, %v: %v, %d instead of %d", number, d, len(wraps), e, f, err, want)
	}
}

func checks(t *testing.T, r *keys.Ring, f api.Frame, want api.Errno) {
	t.Helper()
	if err := frame.Check(r, f); err != want {
		t.Errorf("Check of %d, %d, %d wraps, %d bytes: %d instead of %d", f.Author, f.Number, len(f.Wraps), len(f.Body), err, want)
	}
}

// opens asks that a frame is checked and opened, and what it says.
func opens(t *testing.T, r *keys.Ring, f api.Frame, want api.Event) {
	t.Helper()
	checks(t, r, f, api.OK)
	if e, err := frame.Open(r, f); err != api.OK || e != want {
		t.Errorf("Open: %v, %d instead of %v", e, err, want)
	}
}

// openFails asks that a frame has an error, and nothing beside it.
func openFails(t *testing.T, r *keys.Ring, f api.Frame, want api.Errno) {
	t.Helper()
	if e, err := frame.Open(r, f); err != want || e != (api.Event{}) {
		t.Errorf("Open of %d, %d, %v, %d bytes: %v, %d instead of %d", f.Author, f.Number, f.Epoch, len(f.Body), e, err, want)
	}
}

// refuses asks that Check has an error, and Open the same.
func refuses(t *testing.T, r *keys.Ring, f api.Frame, want api.Errno) {
	t.Helper()
	checks(t, r, f, want)
	openFails(t, r, f, want)
}

// P1
func TestNilRing(t *testing.T) {
	f := seal(t, ring(t, 0), 1, nil, insert(0, 1))
	for _, g := range []api.Frame{f, {}, {Author: 9, Number: 999, Wraps: someWraps(65), Body: make([]byte, 5000)}} {
		refuses(t, nil, g, api.ErrNil)
	}
	for _, e := range []api.Event{insert(0, 1), {}, {Kind: 255}} {
		for _, number := range []uint32{0, 1, api.MaxBatch + 1} {
			sealFails(t, nil, number, epoch, nil, e, api.ErrNil)
			sealFails(t, nil, number, api.Dot{}, someWraps(65), e, api.ErrNil)
		}
	}
}

// P12.1. These frames are another program's.
func TestSealAsTold(t *testing.T) {
	first, err := frame.Seal(keys.New(0, seed), 1, api.Key{}, api.Dot{}, nil, insert(0, 1))
	if err != api.OK {
		t.Fatal(err)
	}
	var data [48]byte
	for i := range data {
		data[i] = byte(50 + i)
	}
	erase := told(api.Event{Kind: api.Delete, Parent: dot(7, 99)}, 2, 256, 7, 0, 0, 0, 0, 0, 0, 1048576)
	other := seal(t, ring(t, 2), 256, []api.Wrap{{To: 6, Epoch: epoch, Data: data}}, erase)
	for _, c := range []struct {
		f              api.Frame
		body, mac, sum string
	}{
		{
			first,
			"e1fea08b2d94bbfd1f0b8b54f32323ec6d8844538a7555da4835f2317afdd53741da45ee0303310213bb93d86ed87698df362c4e7c1d9055735790859694a0b3" +
				"a078ed36fe4cb00d65d0cad49985ab5f77c3fdd6ef95a2873c9c64ff67fdc6632800e0d267aef74ee1d0a6810daf8414cc0611d74c280fab1d216b6af08271ab" +
				"d81a6fa71b602516462326416ef489f8",
			"ab0eeff9289fe93ea63006925b2a4d8c82fe4205851e7e528be004da112ca85c",
			"967b2a34712750fcdfa723e7b6983e18d7812ecc821a5fe22231e8893eed0b8a",
		},
		{
			other,
			"4966ae4f030a61eb3810411f03607c6934b02756f59a1a56ed5c291a16a9b4d82f1851ae6fe82b5e0e91660d3b26f04c6c92235991e5f300d9f75d8c58dd90b9" +
				"7b3a342d93df7272f749be2d1f573458303e8c9e286643af3e9ae883c505653ed355928397f53a45922aa8150fe8986ec3784127036529c011b3a55de8f5464f" +
				"392014a3f76e6ac2d4ccbd8dcf265c07",
			"6252131707f3c6d98980028ab8b7fec77c0af0c703c28d67fd3ee65559504b37",
			"2341ba4a5e9530d68b6b0e6f71a74fa6847aa70ec494855c147ecf57ed1c9084",
		},
	} {
		sum := frame.Sum(c.f)
		if !bytes.Equal(c.f.Body, unhex(t, c.body)) || !bytes.Equal(c.f.Mac[:], unhex(t, c.mac)) || !bytes.Equal(sum[:], unhex(t, c.sum)) {
			t.Errorf("body %x\nmac %x\nsum %x", c.f.Body, c.f.Mac, sum)
		}
	}
}

func TestSealIsTheChapters(t *testing.T) {
	for own := range byte(8) {
		r := ring(t, own)
		for _, number := range []uint32{1, 2, 255, 256} {
			for _, n := range []int{0, 1, 7, 63, 64} {
				for _, e := range kinds(own, number) {
					f := seal(t, r, number, someWraps(n), e)
					want := plainSeal(own, number, row(100, 1), epoch, row(2, 3), someWraps(n), e)
					if !wire.SameFrame(f, want) {
						t.Errorf("%v instead of %v", f, want)
					}
				}
			}
		}
	}
}

func TestSealUnderTheFirstEpoch(t *testing.T) {
	e := insert(0, 1)
	f, err := frame.Seal(keys.New(0, seed), 1, api.Key{}, api.Dot{}, nil, e)
	want := plainSeal(0, 1, api.Key{}, api.Dot{}, plainHmac(seed, 'e', 'p', 'o', 'c', 'h', 1), nil, e)
	if err != api.OK || !wire.SameFrame(f, want) {
		t.Error(f, err)
	}
}

func TestSealOfNumbers(t *testing.T) {
	r := ring(t, 3)
	for number := uint32(1); number <= api.MaxBatch; number++ {
		opens(t, r, seal(t, r, number, nil, insert(3, number)), insert(3, number))
	}
	for _, number := range []uint32{0, api.MaxBatch + 1, 1 << 20, math.MaxUint32} {
		sealFails(t, r, number, epoch, nil, insert(3, number), api.ErrRange)
		sealFails(t, r, number, epoch, nil, insert(3, 1), api.ErrRange)
	}
}

func TestSealOfWraps(t *testing.T) {
	r := ring(t, 3)
	for n := range api.MaxWraps + 1 {
		f := seal(t, r, 1, someWraps(n), insert(3, 1))
		if !slices.Equal(f.Wraps, someWraps(n)) {
			t.Errorf("%d wraps: %v", n, f.Wraps)
		}
		opens(t, r, f, insert(3, 1))
	}
	for _, n := range []int{api.MaxWraps + 1, 255, 256, 257, 300} {
		sealFails(t, r, 1, epoch, someWraps(n), insert(3, 1), api.ErrRange)
	}
}

func TestSealOfNoWraps(t *testing.T) {
	r := ring(t, 3)
	if !wire.SameFrame(seal(t, r, 1, nil, insert(3, 1)), seal(t, r, 1, []api.Wrap{}, insert(3, 1))) {
		t.Error("nil is no empty list")
	}
}

// wrongEvents are some that are not right, with the dot that a frame asks for.
func wrongEvents(author byte, number uint32) []api.Event {
	var l []api.Event
	for _, e := range []api.Event{
		{},
		{Kind: 5, Right: true, Char: 'a'},
		{Kind: 255},
		{Kind: api.Insert, Char: 'a'},
		{Kind: api.Insert, Right: true},
		{Kind: api.Insert, Right: true, Char: 128},
		{Kind: api.Insert, Right: true, Char: 'a', Who: 1},
		{Kind: api.Insert, Right: true, Char: 'a', Parent: dot(7, 500)},
		{Kind: api.Delete},
		{Kind: api.Delete, Parent: dot(author, number)},
		{Kind: api.Grant, Who: 8, Role: api.Writer},
		{Kind: api.Grant, Who: 1},
		{Kind: api.Grant, Who: 1, Role: 4},
		{Kind: api.Revoke, Who: 8},
		{Kind: api.Revoke, Who: 1, Role: api.Reader},
		{Kind: api.Revoke, Who: 1, Char: 'a'},
	} {
		l = append(l, told(e, author, number))
	}
	past := insert(author, number)
	past.Past[author]++
	far := insert(author, number)
	far.Past[(author+1)%8] = api.MaxSeq + 1
	return append(l, past, far)
}

func TestSealOfOtherEvents(t *testing.T) {
	r := ring(t, 3)
	for _, e := range wrongEvents(3, 5) {
		sealFails(t, r, 5, epoch, nil, e, api.ErrForm)
	}
	for author := range byte(8) {
		if author != 3 {
			sealFails(t, r, 5, epoch, nil, insert(author, 5), api.ErrForm)
		}
	}
	for _, number := range []uint32{1, 4, 6, 256, 257, 5 + 256, 1 << 20} {
		sealFails(t, r, 5, epoch, nil, insert(3, number), api.ErrForm)
	}
	sealFails(t, r, 5, epoch, nil, api.Event{Dot: dot(8, 5), Kind: api.Insert, Right: true, Char: 'a'}, api.ErrForm)
}

func TestSealUnderOtherEpochs(t *testing.T) {
	r := ring(t, 3)
	for _, d := range []api.Dot{{}, dot(1, 0x01020303), dot(0, 0x01020304), dot(255, math.MaxUint32)} {
		sealFails(t, r, 1, d, nil, insert(3, 1), api.ErrKey)
	}
	sealFails(t, keys.New(3, seed), 1, epoch, nil, insert(3, 1), api.ErrKey)
	sealFails(t, keys.New(3, seed), 1, api.Dot{}, nil, insert(3, 1), api.ErrKey)
}

// Each error stands ahead of all those behind it.
func TestSealErrorsInOrder(t *testing.T) {
	r, not := ring(t, 3), dot(5, 5)
	for _, e := range []api.Event{insert(3, 1), insert(4, 1), {}} {
		sealFails(t, r, 0, not, someWraps(65), e, api.ErrRange)
		sealFails(t, r, 257, not, nil, e, api.ErrRange)
		sealFails(t, r, 1, not, someWraps(65), e, api.ErrRange)
		sealFails(t, r, 1, epoch, someWraps(65), e, api.ErrRange)
	}
	sealFails(t, r, 1, not, someWraps(64), insert(4, 1), api.ErrForm)
	sealFails(t, r, 1, not, someWraps(64), insert(3, 2), api.ErrForm)
	sealFails(t, r, 1, not, nil, api.Event{}, api.ErrForm)
	sealFails(t, r, 1, not, someWraps(64), insert(3, 1), api.ErrKey)
}

// P12.2
func TestCheckOfAuthorsAndNumbers(t *testing.T) {
	r := ring(t, 3)
	for author := range 256 {
		for _, number := range []uint32{0, 1, 2, 255, 256, 257, 1 << 20, math.MaxUint32} {
			f := tagged(api.Frame{Author: byte(author), Number: number, Body: []byte("any")})
			want := api.OK
			if author > 7 || number == 0 || number > 256 {
				want = api.ErrRange
			}
			checks(t, r, f, want)
		}
	}
}

func TestCheckOfTooMuch(t *testing.T) {
	r := ring(t, 3)
	for _, n := range []int{0, 1, 64, 65, 255, 256, 300} {
		for _, size := range []int{0, 1, 144, maxSealed - 1, maxSealed, maxSealed + 1, 1 << 16, 1 << 17} {
			f := api.Frame{Author: 2, Number: 7, Wraps: someWraps(n), Body: make([]byte, size)}
			want := api.OK
			if n > 64 || size > maxSealed {
				want = api.ErrRange
			}
			checks(t, r, tagged(f), want)
			// What is too much stands ahead of a wrong tag.
			if want == api.OK {
				want = api.ErrTag
			}
			refuses(t, r, f, want)
		}
	}
}

// A tag is told by its author's key alone: the epoch needn't be there.
func TestCheckByEachMember(t *testing.T) {
	f := seal(t, ring(t, 3), 1, someWraps(2), insert(3, 1))
	for own := range byte(8) {
		r := keys.New(own, seed)
		checks(t, r, f, api.OK)
		openFails(t, r, f, api.ErrKey)
		refuses(t, keys.New(own, api.Key{5}), f, api.ErrTag)
	}
}

func TestEachBitOfTagAndBodyCounts(t *testing.T) {
	r := ring(t, 3)
	f := seal(t, r, 1, nil, insert(3, 1))
	for i := range len(f.Mac) * 8 {
		g := f
		g.Mac[i/8] ^= 1 << (i % 8)
		refuses(t, r, g, api.ErrTag)
	}
	for i := range len(f.Body) * 8 {
		g := f
		g.Body = bytes.Clone(f.Body)
		g.Body[i/8] ^= 1 << (i % 8)
		refuses(t, r, g, api.ErrTag)
		// With another tag it is the author's, but can't be opened.
		g = tagged(g)
		checks(t, r, g, api.OK)
		openFails(t, r, g, api.ErrTag)
	}
}

// others are frames that differ in one field from one that is sealed with two wraps.
func others(f api.Frame) map[string]api.Frame {
	l := map[string]api.Frame{}
	tell := func(name string, change func(*api.Frame)) {
		g := f
		g.Wraps, g.Body = slices.Clone(f.Wraps), bytes.Clone(f.Body)
		change(&g)
		l[name] = g
	}
	tell("author", func(g *api.Frame) { g.Author++ })
	tell("number", func(g *api.Frame) { g.Number++ })
	tell("high number", func(g *api.Frame) { g.Number ^= 128 })
	tell("epoch's author", func(g *api.Frame) { g.Epoch.Author++ })
	tell("epoch's seq", func(g *api.Frame) { g.Epoch.Seq ^= 1 << 31 })
	tell("prev's first", func(g *api.Frame) { g.Prev[0]++ })
	tell("prev's last", func(g *api.Frame) { g.Prev[31]++ })
	tell("a wrap's to", func(g *api.Frame) { g.Wraps[0].To++ })
	tell("a wrap's author", func(g *api.Frame) { g.Wraps[1].Epoch.Author++ })
	tell("a wrap's seq", func(g *api.Frame) { g.Wraps[1].Epoch.Seq ^= 1 << 30 })
	tell("a wrap's first byte", func(g *api.Frame) { g.Wraps[0].Data[0]++ })
	tell("a wrap's last byte", func(g *api.Frame) { g.Wraps[1].Data[47]++ })
	tell("one wrap less", func(g *api.Frame) { g.Wraps = g.Wraps[:1] })
	tell("no wraps", func(g *api.Frame) { g.Wraps = nil })
	tell("one wrap more", func(g *api.Frame) { g.Wraps = append(g.Wraps, api.Wrap{}) })
	tell("wraps in another order", func(g *api.Frame) { slices.Reverse(g.Wraps) })
	tell("a shorter body", func(g *api.Frame) { g.Body = g.Body[:143] })
	tell("a longer body", func(g *api.Frame) { g.Body = append(g.Body, 0) })
	tell("no body", func(g *api.Frame) { g.Body = nil })
	return l
}

func TestEachFieldOfAFrameCounts(t *testing.T) {
	r := ring(t, 3)
	// A ring with these epochs finds a key for each of the changed frames.
	for _, d := range []api.Dot{dot(2, 0x01020304), dot(1, 0x81020304)} {
		if err := r.Add(d, row(2, 3)); err != api.OK {
			t.Fatal(err)
		}
	}
	f := seal(t, r, 9, someWraps(2), insert(3, 9))
	opens(t, r, f, insert(3, 9))
	for name, g := range others(f) {
		t.Run(name, func(t *testing.T) {
			refuses(t, r, g, api.ErrTag)
			if frame.Sum(g) == frame.Sum(f) {
				t.Error("the same sum")
			}
			// Though its author tag it, what is told openly is part of what is sealed.
			g = tagged(g)
			checks(t, r, g, api.OK)
			want := api.ErrTag
			if len(g.Body) == 0 {
				want = api.ErrForm
			}
			openFails(t, r, g, want)
		})
	}
}

func TestOpenOfShortBodies(t *testing.T) {
	r := ring(t, 3)
	f := seal(t, r, 1, nil, insert(3, 1))
	for n := range 16 {
		g := f
		g.Body = f.Body[:n]
		openFails(t, r, tagged(g), api.ErrForm)
	}
	for _, n := range []int{16, 17, 143} {
		g := f
		g.Body = f.Body[:n]
		openFails(t, r, tagged(g), api.ErrTag)
	}
	g := f
	g.Body = nil
	openFails(t, r, tagged(g), api.ErrForm)
}

// A body may open, and be no padded event.
func TestOpenOfOtherBodies(t *testing.T) {
	r := ring(t, 3)
	f := api.Frame{Author: 3, Number: 1, Epoch: epoch}
	right := padded(insert(3, 1))
	opens(t, r, bodyOf(f, row(2, 3), right), insert(3, 1))
	changed := func(at int, to byte) []byte {
		b := bytes.Clone(right)
		b[at] = to
		return b
	}
	for name, b := range map[string][]byte{
		"no bytes":                nil,
		"one byte":                {0},
		"an event, not padded":    wire.Event(insert(3, 1)),
		"fewer than a bucket":     right[:127],
		"more than a bucket":      append(bytes.Clone(right), 0),
		"a greater bucket":        append(bytes.Clone(right), make([]byte, 128)...),
		"a byte behind the event": changed(127, 1),
		"a length of 57":          changed(1, 57),
		"a length of 59":          changed(1, 59),
		"a length of 0":           changed(1, 0),
		"a length beyond":         changed(0, 1),
		"no bytes, padded":        make([]byte, 128),
		"a right of 2":            changed(2+43, 2),
		"spare bytes, not 0":      changed(2+57, 1),
		"most bytes":              make([]byte, api.MaxBody),
	} {
		t.Run(name, func(t *testing.T) {
			g := bodyOf(f, row(2, 3), b)
			checks(t, r, g, api.OK)
			openFails(t, r, g, api.ErrForm)
		})
	}
}

func TestOpenOfOtherEvents(t *testing.T) {
	r := ring(t, 3)
	f := api.Frame{Author: 3, Number: 5, Epoch: epoch}
	for _, e := range kinds(3, 5) {
		opens(t, r, bodyOf(f, row(2, 3), padded(e)), e)
	}
	wrong := append(wrongEvents(3, 5), insert(2, 5), insert(4, 5), insert(3, 4), insert(3, 6), insert(3, 5+256), insert(5, 3), api.Event{})
	for _, e := range wrong {
		g := bodyOf(f, row(2, 3), padded(e))
		checks(t, r, g, api.OK)
		openFails(t, r, g, api.ErrForm)
	}
}

func TestOpenUnderOtherKeys(t *testing.T) {
	r := ring(t, 3)
	f := api.Frame{Author: 3, Number: 5, Epoch: epoch}
	openFails(t, r, bodyOf(f, row(2, 4), padded(insert(3, 5))), api.ErrTag)
	other := f
	other.Epoch.Seq++
	openFails(t, r, bodyOf(other, row(2, 3), padded(insert(3, 5))), api.ErrKey)
	// The frame's key is its author's, and not the one's who opens it.
	for author := range byte(8) {
		g := api.Frame{Author: author, Number: 5, Epoch: epoch}
		opens(t, r, bodyOf(g, row(2, 3), padded(insert(author, 5))), insert(author, 5))
	}
}

// Each error stands ahead of all those behind it.
func TestOpenErrorsInOrder(t *testing.T) {
	r, none := ring(t, 3), keys.New(3, seed)
	short := api.Frame{Author: 3, Number: 5, Epoch: epoch, Body: make([]byte, 15)}
	long := api.Frame{Author: 3, Number: 5, Epoch: epoch, Body: make([]byte, 16)}
	for _, f := range []api.Frame{short, long} {
		g := f
		g.Author = 8
		refuses(t, none, tagged(g), api.ErrRange)
		g = f
		g.Number = 0
		refuses(t, none, g, api.ErrRange)
		refuses(t, none, f, api.ErrTag)
		openFails(t, none, tagged(f), api.ErrKey)
	}
	openFails(t, r, tagged(short), api.ErrForm)
	openFails(t, r, tagged(long), api.ErrTag)
	openFails(t, none, bodyOf(long, row(2, 3), padded(insert(4, 4))), api.ErrKey)
	openFails(t, r, bodyOf(long, row(2, 3), padded(insert(4, 4))), api.ErrForm)
}

func plainSum(f api.Frame) api.Key {
	b := binary.BigEndian.AppendUint16(plainOpen(f), uint16(len(f.Body)))
	b = append(append(b, f.Body...), f.Mac[:]...)
	return sha256.Sum256(b)
}

func TestSumIsTheChapters(t *testing.T) {
	r := ring(t, 3)
	for _, f := range []api.Frame{
		{},
		seal(t, r, 1, nil, insert(3, 1)),
		seal(t, r, 256, someWraps(64), insert(3, 256)),
		{Author: 255, Number: math.MaxUint32, Epoch: dot(255, math.MaxUint32), Wraps: someWraps(64), Body: make([]byte, maxSealed), Mac: row(1, 1)},
	} {
		if got := frame.Sum(f); got != plainSum(f) {
			t.Errorf("%x instead of %x", got, plainSum(f))
		}
	}
}

func TestSumOfWhatCannotBeWritten(t *testing.T) {
	for _, f := range []api.Frame{
		{Wraps: someWraps(65)},
		{Wraps: someWraps(256)},
		{Body: make([]byte, maxSealed+1)},
		{Author: 3, Number: 1, Wraps: someWraps(65), Body: make([]byte, 1<<16)},
	} {
		if got := frame.Sum(f); got != (api.Key{}) {
			t.Errorf("%x", got)
		}
	}
}

func TestSumCountsTheTag(t *testing.T) {
	f := seal(t, ring(t, 3), 1, nil, insert(3, 1))
	for i := range len(f.Mac) {
		g := f
		g.Mac[i]++
		if frame.Sum(g) == frame.Sum(f) {
			t.Error(i)
		}
	}
}

// P12.3
func TestOpenOfSealIsTheEvent(t *testing.T) {
	for own := range byte(8) {
		for _, number := range []uint32{1, 200, 256} {
			for _, e := range kinds(own, number) {
				f := seal(t, ring(t, own), number, someWraps(3), e)
				for who := range byte(8) {
					opens(t, ring(t, who), f, e)
				}
			}
		}
	}
}

// Who gets the epoch's key by a wrap opens the frame then.
func TestOpenBehindUnwrap(t *testing.T) {
	a, b := keys.New(0, seed), keys.New(5, seed)
	w, err := a.Wrap(5, api.Dot{})
	if err != api.OK {
		t.Fatal(err)
	}
	e := told(api.Event{Kind: api.Grant, Who: 5, Role: api.Writer}, 0, 1)
	f, err := frame.Seal(a, 1, api.Key{}, api.Dot{}, []api.Wrap{w}, e)
	if err != api.OK {
		t.Fatal(err)
	}
	openFails(t, b, f, api.ErrKey)
	if err := b.Unwrap(f.Author, f.Wraps[0]); err != api.OK {
		t.Fatal(err)
	}
	opens(t, b, f, e)
}

// What the relay hands on as bytes is the frame.
func TestOpenBehindTheRelay(t *testing.T) {
	f := seal(t, ring(t, 2), 7, someWraps(2), insert(2, 7))
	b, err := wire.Frame(f)
	if err != api.OK {
		t.Fatal(err)
	}
	g, err := wire.ReadFrame(b)
	if err != api.OK || frame.Sum(g) != frame.Sum(f) {
		t.Fatal(err)
	}
	opens(t, ring(t, 6), g, insert(2, 7))
}

// P12.4, and the chapter's example
func TestFramesAreAsLong(t *testing.T) {
	for own := range byte(8) {
		for _, number := range []uint32{1, 255, 256} {
			for _, n := range []int{0, 1, 2, 64} {
				for _, e := range kinds(own, number) {
					b, err := wire.Frame(seal(t, ring(t, own), number, someWraps(n), e))
					if err != api.OK || len(b) != 223+54*n {
						t.Errorf("%d wraps, %v: %d bytes, %d", n, e, len(b), err)
					}
				}
			}
		}
	}
}

// roomyWraps is a list with spare room that isn't empty, and all of the room.
func roomyWraps(n int) (list, room []api.Wrap) {
	room = append(someWraps(n), someWraps(5)...)
	return room[:n:len(room)], room
}

func roomy(b []byte) (list, room []byte) {
	room = append(bytes.Clone(b), bytes.Repeat([]byte{0xa5}, 5000)...)
	return room[:len(b)], room
}

// P3
func TestWhatIsHandedInStays(t *testing.T) {
	r := ring(t, 3)
	for _, n := range []int{0, 1, 5, 64, 65} {
		list, room := roomyWraps(n)
		was := slices.Clone(room)
		f, err := frame.Seal(r, 1, api.Key{}, epoch, list, insert(3, 1))
		if (err == api.OK) != (n <= 64) || !slices.Equal(room, was) {
			t.Errorf("Seal of %d wraps: %d", n, err)
		}
		if err != api.OK {
			continue
		}
		f.Wraps = list
		var all []byte
		f.Body, all = roomy(f.Body)
		wasAll := bytes.Clone(all)
		opens(t, r, f, insert(3, 1))
		frame.Sum(f)
		f.Mac[0]++
		refuses(t, r, f, api.ErrTag)
		if !slices.Equal(room, was) || !bytes.Equal(all, wasAll) {
			t.Errorf("%d wraps: a frame that was handed in is another one", n)
		}
	}
	if !slices.Equal(r.Epochs(), []api.Dot{epoch}) {
		t.Error("the ring is another one")
	}
}

func TestAnswersAreTheCallers(t *testing.T) {
	r := ring(t, 3)
	for _, n := range []int{0, 1, 5, 64} {
		list, room := roomyWraps(n)
		was := slices.Clone(room)
		one, other := seal(t, r, 1, list, insert(3, 1)), seal(t, r, 1, list, insert(3, 1))
		clear(one.Wraps[:cap(one.Wraps)])
		clear(one.Body[:cap(one.Body)])
		if !slices.Equal(room, was) || !wire.SameFrame(other, plainSeal(3, 1, row(100, 1), epoch, row(2, 3), someWraps(n), insert(3, 1))) {
			t.Errorf("%d wraps: the answer lies in another list", n)
		}
		clear(room)
		opens(t, r, other, insert(3, 1))
		if !slices.Equal(other.Wraps, someWraps(n)) {
			t.Errorf("%d wraps: the answer lies in what was handed in", n)
		}
	}
}

// P6
func TestSameFramesEveryTime(t *testing.T) {
	r := ring(t, 3)
	first := seal(t, r, 1, someWraps(2), insert(3, 1))
	frame.Seal(r, 2, api.Key{}, epoch, nil, insert(3, 2))
	frame.Open(r, api.Frame{})
	if !wire.SameFrame(first, seal(t, r, 1, someWraps(2), insert(3, 1))) || frame.Sum(first) != frame.Sum(first) {
		t.Error("one event, two frames")
	}
}

// P4
func TestForksOfARing(t *testing.T) {
	r := keys.New(3, seed)
	f := r.Fork()
	if err := f.Add(epoch, row(2, 3)); err != api.OK {
		t.Fatal(err)
	}
	g := seal(t, f, 1, nil, insert(3, 1))
	opens(t, f, g, insert(3, 1))
	openFails(t, r, g, api.ErrKey)
	sealFails(t, r, 1, epoch, nil, insert(3, 1), api.ErrKey)
}

// P1, and E7: whatever a frame is, it is opened or refused.
func TestAnyFrames(t *testing.T) {
	r := ring(t, 3)
	draw := uint64(1)
	next := func() byte {
		draw = draw*6364136223846793005 + 1442695040888963407
		return byte(draw >> 56)
	}
	for range 2000 {
		f := api.Frame{Author: next() % 9, Number: uint32(next()) + uint32(next()%3), Epoch: epoch, Wraps: someWraps(int(next()) % 67), Body: make([]byte, int(next())*17)}
		for i := range f.Body {
			f.Body[i] = next()
		}
		want := api.ErrTag
		if f.Author > 7 || f.Number == 0 || f.Number > 256 || len(f.Wraps) > 64 || len(f.Body) > maxSealed {
			want = api.ErrRange
		}
		refuses(t, r, f, want)
		if want == api.ErrTag && len(f.Body) < 16 {
			want = api.ErrForm
		}
		openFails(t, r, tagged(f), want)
	}
}
