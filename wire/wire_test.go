package wire_test

import (
	"bytes"
	"encoding/binary"
	"encoding/hex"
	"math"
	"reflect"
	"slices"
	"strings"
	"testing"

	"escritoire/api"
	"escritoire/wire"
)

const maxBody = 4096 + 16

func sample(n int) []byte {
	b := make([]byte, n)
	for i := range b {
		b[i] = byte(i*11 + i>>8 + 5)
	}
	return b
}

// roomy is a list with spare room that isn't empty, and all of the room.
func roomy(b []byte) (list, room []byte) {
	room = append(bytes.Clone(b), bytes.Repeat([]byte{0xa5}, 5000)...)
	return room[:len(b)], room
}

func unhex(t *testing.T, s string) []byte {
	t.Helper()
	b, err := hex.DecodeString(strings.ReplaceAll(s, " ", ""))
	if err != nil {
		t.Fatal(err)
	}
	return b
}

// drawer draws bytes, the same ones every time.
type drawer uint64

func (d *drawer) one() byte {
	*d = *d*6364136223846793005 + 1442695040888963407
	return byte(*d >> 56)
}

func (d *drawer) fill(b []byte) {
	for i := range b {
		b[i] = d.one()
	}
}

func (d *drawer) four() uint32 {
	var b [4]byte
	d.fill(b[:])
	return binary.LittleEndian.Uint32(b[:])
}

func (d *drawer) dot() api.Dot { return api.Dot{Author: d.one(), Seq: d.four()} }

func (d *drawer) event() api.Event {
	e := api.Event{Dot: d.dot(), Kind: api.Kind(d.one()), Parent: d.dot(), Right: d.one() > 127, Char: d.one(), Who: d.one(), Role: api.Role(d.one())}
	for i := range e.Past {
		e.Past[i] = d.four()
	}
	return e
}

func (d *drawer) frame(wraps, body int) api.Frame {
	f := api.Frame{Author: d.one(), Number: d.four(), Epoch: d.dot(), Wraps: make([]api.Wrap, wraps), Body: make([]byte, body)}
	d.fill(f.Prev[:])
	for i := range f.Wraps {
		f.Wraps[i] = api.Wrap{To: d.one(), Epoch: d.dot()}
		d.fill(f.Wraps[i].Data[:])
	}
	d.fill(f.Body)
	d.fill(f.Mac[:])
	return f
}

func (d *drawer) heads() [api.Authors]api.Head {
	var l [api.Authors]api.Head
	for i := range l {
		l[i].Count = d.four()
		d.fill(l[i].Sum[:])
	}
	return l
}

func plainDot(b []byte, d api.Dot) []byte {
	return binary.BigEndian.AppendUint32(append(b, d.Author), d.Seq)
}

// plainEvent is the chapter's words once more.
func plainEvent(e api.Event) []byte {
	b := plainDot(nil, e.Dot)
	for _, n := range e.Past {
		b = binary.BigEndian.AppendUint32(b, n)
	}
	b = plainDot(append(b, byte(e.Kind)), e.Parent)
	right := byte(0)
	if e.Right {
		right = 1
	}
	b = append(b, right, e.Char, e.Who, byte(e.Role))
	return append(b, make([]byte, 11)...)
}

// plainOpen and plainFrame are the chapter's words once more, without its limits.
func plainOpen(f api.Frame) []byte {
	b := []byte{0x45, 0x53, f.Author}
	b = binary.BigEndian.AppendUint32(b, f.Number)
	b = append(plainDot(b, f.Epoch), f.Prev[:]...)
	b = append(b, byte(len(f.Wraps)))
	for _, w := range f.Wraps {
		b = append(plainDot(append(b, w.To), w.Epoch), w.Data[:]...)
	}
	return b
}

func plainFrame(f api.Frame) []byte {
	b := binary.BigEndian.AppendUint16(plainOpen(f), uint16(len(f.Body)))
	return append(append(b, f.Body...), f.Mac[:]...)
}

func plainHeads(l [api.Authors]api.Head) []byte {
	var b []byte
	for _, h := range l {
		b = append(binary.BigEndian.AppendUint32(b, h.Count), h.Sum[:]...)
	}
	return b
}

// plainPad is the chapter's words once more, for a bucket that is named.
func plainPad(b []byte, bucket int) []byte {
	p := append(binary.BigEndian.AppendUint16(nil, uint16(len(b))), b...)
	return append(p, make([]byte, bucket-len(p))...)
}

func frameBytes(t *testing.T, f api.Frame) []byte {
	t.Helper()
	b, e := wire.Frame(f)
	if e != api.OK {
		t.Fatalf("%d wraps, Body of %d: error %d", len(f.Wraps), len(f.Body), e)
	}
	return b
}

func pad(t *testing.T, b []byte) []byte {
	t.Helper()
	p, e := wire.Pad(b)
	if e != api.OK {
		t.Fatalf("%d bytes: error %d", len(b), e)
	}
	return p
}

func refusesEvent(t *testing.T, b []byte, why string) {
	t.Helper()
	if e, f := wire.ReadEvent(b); f != api.ErrForm || e != (api.Event{}) {
		t.Errorf("%s: %v, error %d", why, e, f)
	}
}

func isEmpty(f api.Frame) bool {
	return f.Author == 0 && f.Number == 0 && f.Epoch == api.Dot{} && f.Prev == api.Key{} && len(f.Wraps) == 0 && len(f.Body) == 0 && f.Mac == api.Key{}
}

func refusesFrame(t *testing.T, b []byte, why string) {
	t.Helper()
	if f, e := wire.ReadFrame(b); e != api.ErrForm || !isEmpty(f) {
		t.Errorf("%s: %v, error %d", why, f, e)
	}
}

func refusesPadded(t *testing.T, b []byte, why string) {
	t.Helper()
	if u, e := wire.Unpad(b); e != api.ErrForm || len(u) != 0 {
		t.Errorf("%s: %x, error %d", why, u, e)
	}
}

// P6.1
func TestEventStandsAsTold(t *testing.T) {
	e := api.Event{
		Dot:  api.Dot{Author: 2, Seq: 0x01020304},
		Past: api.Vector{0x10111213, 0x20212223, 0x30313233, 0x40414243, 0x50515253, 0x60616263, 0x70717273, 0x80818283},
		Kind: api.Delete, Parent: api.Dot{Author: 7, Seq: 0xa0a1a2a3}, Right: true, Char: 'x', Who: 5, Role: api.Admin,
	}
	want := unhex(t, "02 01020304 10111213 20212223 30313233 40414243 50515253 60616263 70717273 80818283 02 07 a0a1a2a3 01 78 05 03 0000000000000000000000")
	if got := wire.Event(e); !bytes.Equal(got, want) {
		t.Errorf("%x, want %x", got, want)
	}
	if got, f := wire.ReadEvent(want); f != api.OK || got != e {
		t.Errorf("%v, error %d", got, f)
	}
}

func TestEventOfNothing(t *testing.T) {
	want := make([]byte, 58)
	if got := wire.Event(api.Event{}); !bytes.Equal(got, want) {
		t.Errorf("%x", got)
	}
	if e, f := wire.ReadEvent(want); f != api.OK || e != (api.Event{}) {
		t.Errorf("%v, error %d", e, f)
	}
}

func TestEventIsTheChapters(t *testing.T) {
	d := drawer(1)
	for range 500 {
		e := d.event()
		if got, want := wire.Event(e), plainEvent(e); !bytes.Equal(got, want) {
			t.Errorf("%v: %x, want %x", e, got, want)
		}
	}
}

// The form is asked for, not what an event means: authors, kinds and roles may be any.
func TestEventOfGreatestNumbers(t *testing.T) {
	e := api.Event{Dot: api.Dot{Author: 255, Seq: math.MaxUint32}, Kind: 255, Parent: api.Dot{Author: 255, Seq: math.MaxUint32}, Right: true, Char: 255, Who: 255, Role: 255}
	for i := range e.Past {
		e.Past[i] = math.MaxUint32
	}
	want := append(bytes.Repeat([]byte{255}, 43), 1, 255, 255, 255, 0, 0, 0, 0, 0, 0, 0, 0, 0, 0, 0)
	if got := wire.Event(e); !bytes.Equal(got, want) {
		t.Errorf("%x", got)
	}
	if got, f := wire.ReadEvent(want); f != api.OK || got != e {
		t.Errorf("%v, error %d", got, f)
	}
}

func TestReadEventOfWrongLengths(t *testing.T) {
	d := drawer(2)
	b := append(wire.Event(d.event()), make([]byte, 100)...)
	refusesEvent(t, nil, "nil")
	for n := range len(b) + 1 {
		if n != 58 {
			refusesEvent(t, b[:n], "length")
		}
	}
}

func TestReadEventOfWrongRight(t *testing.T) {
	for x := range 256 {
		b := wire.Event(api.Event{Char: 'a'})
		b[43] = byte(x)
		if x > 1 {
			refusesEvent(t, b, "Right")
			continue
		}
		if e, f := wire.ReadEvent(b); f != api.OK || e != (api.Event{Right: x == 1, Char: 'a'}) {
			t.Errorf("%d: %v, error %d", x, e, f)
		}
	}
}

func TestReadEventOfBytesBehind(t *testing.T) {
	d := drawer(3)
	e := d.event()
	for at := 47; at < 58; at++ {
		for _, x := range []byte{1, 2, 128, 255} {
			b := wire.Event(e)
			b[at] = x
			refusesEvent(t, b, "bytes behind")
		}
	}
}

// P6.2
func TestFrameStandsAsTold(t *testing.T) {
	f := api.Frame{
		Author: 3, Number: 0x01020304, Epoch: api.Dot{Author: 4, Seq: 0x05060708}, Prev: api.Key(bytes.Repeat([]byte{0xb1}, 32)),
		Wraps: []api.Wrap{
			{To: 5, Epoch: api.Dot{Author: 6, Seq: 0x11121314}, Data: [48]byte(bytes.Repeat([]byte{0xc1}, 48))},
			{To: 7, Epoch: api.Dot{Author: 8, Seq: 0x21222324}, Data: [48]byte(bytes.Repeat([]byte{0xc2}, 48))},
		},
		Body: []byte("body"), Mac: api.Key(bytes.Repeat([]byte{0xd1}, 32)),
	}
	open := unhex(t, "45 53 03 01020304 04 05060708"+strings.Repeat("b1", 32)+
		"02 05 06 11121314"+strings.Repeat("c1", 48)+"07 08 21222324"+strings.Repeat("c2", 48))
	want := append(bytes.Clone(open), unhex(t, "0004 626f6479"+strings.Repeat("d1", 32))...)
	if got := wire.Open(f); !bytes.Equal(got, open) {
		t.Errorf("%x, want %x", got, open)
	}
	if got := frameBytes(t, f); !bytes.Equal(got, want) {
		t.Errorf("%x, want %x", got, want)
	}
	if got, e := wire.ReadFrame(want); e != api.OK || !reflect.DeepEqual(got, f) {
		t.Errorf("%v, error %d", got, e)
	}
}

func TestFrameOfNothing(t *testing.T) {
	open := append([]byte{0x45, 0x53}, make([]byte, 43)...)
	whole := append(bytes.Clone(open), make([]byte, 34)...)
	for _, f := range []api.Frame{{}, {Wraps: []api.Wrap{}, Body: []byte{}}} {
		if got := wire.Open(f); !bytes.Equal(got, open) {
			t.Errorf("%x", got)
		}
		if got := frameBytes(t, f); !bytes.Equal(got, whole) {
			t.Errorf("%x", got)
		}
	}
	if f, e := wire.ReadFrame(whole); e != api.OK || !isEmpty(f) {
		t.Errorf("%v, error %d", f, e)
	}
}

func TestFrameIsTheChapters(t *testing.T) {
	d := drawer(4)
	for _, wraps := range []int{0, 1, 2, 7, 63, 64} {
		for _, body := range []int{0, 1, 144, 255, 256, 257, 4096, 4111, 4112} {
			f := d.frame(wraps, body)
			if got, want := frameBytes(t, f), plainFrame(f); !bytes.Equal(got, want) {
				t.Errorf("%d wraps, Body of %d: %x, want %x", wraps, body, got, want)
			}
			if got, want := wire.Open(f), plainOpen(f); !bytes.Equal(got, want) {
				t.Errorf("%d wraps, Body of %d: %x, want %x", wraps, body, got, want)
			}
		}
	}
}

func TestFrameOfTooMuch(t *testing.T) {
	d := drawer(5)
	for _, c := range [][2]int{{65, 0}, {65, 4112}, {66, 10}, {256, 10}, {320, 10}, {0, 4113}, {64, 4113}, {1, 65536}, {1, 65540}, {65, 4113}} {
		f := d.frame(c[0], c[1])
		if b, e := wire.Frame(f); e != api.ErrRange || len(b) != 0 {
			t.Errorf("%d wraps, Body of %d: %d bytes, error %d", c[0], c[1], len(b), e)
		}
		refusesFrame(t, plainFrame(f), "too much")
	}
}

func TestOpenOfTooManyWraps(t *testing.T) {
	d := drawer(6)
	for _, wraps := range []int{65, 66, 255, 256, 257, 320} {
		if b := wire.Open(d.frame(wraps, 3)); len(b) != 0 {
			t.Errorf("%d wraps: %d bytes", wraps, len(b))
		}
	}
}

// What a frame tells openly has nothing of Body and Mac.
func TestOpenOfAnyBody(t *testing.T) {
	d := drawer(7)
	f := d.frame(2, 10)
	want := wire.Open(f)
	for _, n := range []int{0, 4112, 4113, 70000} {
		f.Body, f.Mac = sample(n), api.Key(sample(32))
		if !bytes.Equal(wire.Open(f), want) {
			t.Errorf("Body of %d", n)
		}
	}
}

func TestReadFrameOfCutBytes(t *testing.T) {
	d := drawer(8)
	for _, c := range [][2]int{{0, 0}, {0, 1}, {1, 0}, {3, 40}, {64, 4112}} {
		b := frameBytes(t, d.frame(c[0], c[1]))
		for n := range len(b) {
			refusesFrame(t, b[:n], "cut")
		}
		for n := 1; n < 100; n++ {
			refusesFrame(t, append(bytes.Clone(b), make([]byte, n)...), "more behind")
			refusesFrame(t, append(bytes.Clone(b), sample(n)...), "more behind")
		}
		refusesFrame(t, append(bytes.Clone(b), b...), "twice")
	}
	refusesFrame(t, nil, "nil")
}

func TestReadFrameOfWrongMarks(t *testing.T) {
	d := drawer(9)
	b := frameBytes(t, d.frame(1, 4))
	for at := range 2 {
		for i := range 8 {
			b[at] ^= 1 << i
			refusesFrame(t, b, "mark")
			b[at] ^= 1 << i
		}
	}
	b[0], b[1] = b[1], b[0]
	refusesFrame(t, b, "marks the other way round")
}

func TestReadFrameOfWrongLengths(t *testing.T) {
	f := api.Frame{Body: sample(10)}
	for x := range 256 {
		b := frameBytes(t, f)
		b[44] = byte(x)
		if x != 0 {
			refusesFrame(t, b, "number of wraps")
		}
	}
	for x := range 1 << 16 {
		b := frameBytes(t, f)
		binary.BigEndian.PutUint16(b[45:], uint16(x))
		if x != 10 {
			refusesFrame(t, b, "length of Body")
		}
	}
}

func TestHeadsStandAsTold(t *testing.T) {
	var l [api.Authors]api.Head
	var want []byte
	for i := range l {
		l[i] = api.Head{Count: 0x01020304 + uint32(i), Sum: api.Key(bytes.Repeat([]byte{byte(0xe0 + i)}, 32))}
		want = append(want, 1, 2, 3, byte(4+i))
		want = append(want, bytes.Repeat([]byte{byte(0xe0 + i)}, 32)...)
	}
	if got := wire.Heads(l); len(got) != 288 || !bytes.Equal(got, want) {
		t.Errorf("%x, want %x", got, want)
	}
	if got, e := wire.ReadHeads(want); e != api.OK || got != l {
		t.Errorf("%v, error %d", got, e)
	}
}

func TestHeadsAreTheChapters(t *testing.T) {
	d := drawer(10)
	for range 100 {
		l := d.heads()
		if got, want := wire.Heads(l), plainHeads(l); !bytes.Equal(got, want) {
			t.Errorf("%x, want %x", got, want)
		}
	}
	if got := wire.Heads([api.Authors]api.Head{}); !bytes.Equal(got, make([]byte, 288)) {
		t.Errorf("%x", got)
	}
}

func TestReadHeadsOfWrongLengths(t *testing.T) {
	b := sample(400)
	for n := range len(b) + 1 {
		l, e := wire.ReadHeads(b[:n])
		if n == 288 {
			if e != api.OK || !bytes.Equal(plainHeads(l), b[:n]) {
				t.Errorf("%d bytes: %v, error %d", n, l, e)
			}
		} else if e != api.ErrForm || l != ([api.Authors]api.Head{}) {
			t.Errorf("%d bytes: %v, error %d", n, l, e)
		}
	}
	if l, e := wire.ReadHeads(nil); e != api.ErrForm || l != ([api.Authors]api.Head{}) {
		t.Errorf("nil: %v, error %d", l, e)
	}
}

// P6.3
func TestBucketAtEdges(t *testing.T) {
	for _, c := range [][2]int{
		{0, 128}, {1, 128}, {125, 128}, {126, 128}, {127, 256}, {128, 256}, {129, 256}, {254, 256}, {255, 512}, {256, 512}, {510, 512}, {511, 1024},
		{1022, 1024}, {1023, 2048}, {2046, 2048}, {2047, 4096}, {4093, 4096}, {4094, 4096}, {4095, 0}, {4096, 0}, {4097, 0}, {8190, 0}, {65536, 0}, {65537, 0}, {1 << 32, 0},
		{-1, 0}, {-2, 0}, {-3, 0}, {-128, 0}, {math.MinInt32, 0}, {math.MinInt, 0}, {math.MaxInt32, 0}, {math.MaxInt - 2, 0}, {math.MaxInt - 1, 0}, {math.MaxInt, 0},
	} {
		if got := wire.Bucket(c[0]); got != c[1] {
			t.Errorf("%d: %d, want %d", c[0], got, c[1])
		}
	}
}

func TestBucketOfEachNumber(t *testing.T) {
	for n := -10; n < 5000; n++ {
		want := 0
		for _, size := range []int{4096, 2048, 1024, 512, 256, 128} {
			if n >= 0 && size >= n+2 {
				want = size
			}
		}
		if got := wire.Bucket(n); got != want {
			t.Errorf("%d: %d, want %d", n, got, want)
		}
	}
}

func TestPadIsLengthBytesAndZeros(t *testing.T) {
	for n := range 4095 {
		b := bytes.Repeat([]byte{0xff}, n)
		if got, want := pad(t, b), plainPad(b, wire.Bucket(n)); !bytes.Equal(got, want) {
			t.Errorf("%d bytes: %x, want %x", n, got, want)
		}
	}
}

func TestPadOfNothing(t *testing.T) {
	for _, b := range [][]byte{nil, {}} {
		if got := pad(t, b); !bytes.Equal(got, make([]byte, 128)) {
			t.Errorf("%x", got)
		}
	}
	if u, e := wire.Unpad(make([]byte, 128)); e != api.OK || len(u) != 0 {
		t.Errorf("%x, error %d", u, e)
	}
}

func TestPadOfTooMuch(t *testing.T) {
	for _, n := range []int{4095, 4096, 4097, 8192, 65535, 65536, 65537, 65600} {
		if b, e := wire.Pad(make([]byte, n)); e != api.ErrRange || len(b) != 0 {
			t.Errorf("%d bytes: %d, error %d", n, len(b), e)
		}
	}
}

func TestUnpadOfWrongSizes(t *testing.T) {
	refusesPadded(t, nil, "nil")
	for n := range 9000 {
		if !slices.Contains([]int{128, 256, 512, 1024, 2048, 4096}, n) {
			refusesPadded(t, make([]byte, n), "no bucket")
			if n >= 2 {
				refusesPadded(t, plainPad(make([]byte, max(0, min(n-2, 65535))), n), "no bucket, but the right length")
			}
		}
	}
}

func TestUnpadOfAnotherBucket(t *testing.T) {
	for _, n := range []int{0, 1, 126, 127, 254, 255, 510, 511, 1022, 1023, 2046, 2047, 4094} {
		for _, size := range []int{128, 256, 512, 1024, 2048, 4096, 8192} {
			if n+2 > size {
				continue
			}
			p := plainPad(sample(n), size)
			if size != wire.Bucket(n) {
				refusesPadded(t, p, "another bucket")
			} else if u, e := wire.Unpad(p); e != api.OK || !bytes.Equal(u, sample(n)) {
				t.Errorf("%d bytes in %d: %x, error %d", n, size, u, e)
			}
		}
	}
}

func TestUnpadOfEachLength(t *testing.T) {
	for _, size := range []int{128, 256, 512, 1024, 2048, 4096} {
		for n := range 1 << 16 {
			b := make([]byte, size)
			binary.BigEndian.PutUint16(b, uint16(n))
			u, e := wire.Unpad(b)
			if n <= 4094 && wire.Bucket(n) == size {
				if e != api.OK || !bytes.Equal(u, make([]byte, n)) {
					t.Fatalf("%d in %d: %d bytes, error %d", n, size, len(u), e)
				}
			} else if e != api.ErrForm || len(u) != 0 {
				t.Fatalf("%d in %d: %d bytes, error %d", n, size, len(u), e)
			}
		}
	}
}

func TestUnpadOfBytesBehind(t *testing.T) {
	for _, n := range []int{0, 1, 100, 125, 126, 127, 253, 254, 300, 4000, 4093, 4094} {
		b := pad(t, sample(n))
		for at := n + 2; at < len(b); at++ {
			b[at] = byte(1 << (at % 8))
			refusesPadded(t, b, "not 0 behind")
			b[at] = 0
		}
		if u, e := wire.Unpad(b); e != api.OK || !bytes.Equal(u, sample(n)) {
			t.Errorf("%d bytes: %x, error %d", n, u, e)
		}
	}
}

func TestSameFrame(t *testing.T) {
	d := drawer(11)
	for _, c := range [][2]int{{0, 0}, {1, 0}, {0, 1}, {3, 10}, {64, 4112}, {70, 5000}} {
		f := d.frame(c[0], c[1])
		g := f
		g.Wraps, g.Body = slices.Clone(f.Wraps), bytes.Clone(f.Body)
		if !wire.SameFrame(f, f) || !wire.SameFrame(f, g) || !wire.SameFrame(g, f) {
			t.Errorf("%d wraps, Body of %d", c[0], c[1])
		}
	}
	none := api.Frame{Wraps: []api.Wrap{}, Body: []byte{}}
	if !wire.SameFrame(api.Frame{}, none) || !wire.SameFrame(none, api.Frame{}) || !wire.SameFrame(api.Frame{}, api.Frame{}) {
		t.Error("no list is unlike an empty one")
	}
}

func TestSameFrameOfUnlikeOnes(t *testing.T) {
	d := drawer(12)
	f := d.frame(3, 10)
	for name, change := range map[string]func(*api.Frame){
		"Author":           func(g *api.Frame) { g.Author++ },
		"Number":           func(g *api.Frame) { g.Number += 1 << 24 },
		"Epoch's Author":   func(g *api.Frame) { g.Epoch.Author++ },
		"Epoch's Seq":      func(g *api.Frame) { g.Epoch.Seq++ },
		"Prev's first":     func(g *api.Frame) { g.Prev[0]++ },
		"Prev's last":      func(g *api.Frame) { g.Prev[31]++ },
		"a wrap's To":      func(g *api.Frame) { g.Wraps[2].To++ },
		"a wrap's Author":  func(g *api.Frame) { g.Wraps[1].Epoch.Author++ },
		"a wrap's Seq":     func(g *api.Frame) { g.Wraps[1].Epoch.Seq++ },
		"a wrap's Data":    func(g *api.Frame) { g.Wraps[0].Data[47]++ },
		"fewer wraps":      func(g *api.Frame) { g.Wraps = g.Wraps[:2] },
		"no wraps":         func(g *api.Frame) { g.Wraps = nil },
		"more wraps":       func(g *api.Frame) { g.Wraps = append(g.Wraps, api.Wrap{}) },
		"wraps the other":  func(g *api.Frame) { slices.Reverse(g.Wraps) },
		"Body's first":     func(g *api.Frame) { g.Body[0]++ },
		"Body's last":      func(g *api.Frame) { g.Body[9]++ },
		"a shorter Body":   func(g *api.Frame) { g.Body = g.Body[:9] },
		"no Body":          func(g *api.Frame) { g.Body = nil },
		"a longer Body":    func(g *api.Frame) { g.Body = append(g.Body, 0) },
		"Mac's first byte": func(g *api.Frame) { g.Mac[0]++ },
		"Mac's last byte":  func(g *api.Frame) { g.Mac[31]++ },
	} {
		g := f
		g.Wraps, g.Body = slices.Clone(f.Wraps), bytes.Clone(f.Body)
		change(&g)
		if wire.SameFrame(f, g) || wire.SameFrame(g, f) {
			t.Error(name)
		}
	}
}

// P6.4
func TestWhatIsReadIsTheThing(t *testing.T) {
	d := drawer(13)
	for i := range 300 {
		e := d.event()
		if got, f := wire.ReadEvent(wire.Event(e)); f != api.OK || got != e {
			t.Errorf("%v: %v, error %d", e, got, f)
		}
		f := d.frame(i%65, i*13%4113)
		if got, e := wire.ReadFrame(frameBytes(t, f)); e != api.OK || !wire.SameFrame(got, f) {
			t.Errorf("%d wraps, Body of %d: error %d", len(f.Wraps), len(f.Body), e)
		}
		l := d.heads()
		if got, e := wire.ReadHeads(wire.Heads(l)); e != api.OK || got != l {
			t.Errorf("%v: %v, error %d", l, got, e)
		}
	}
	for n := range 4095 {
		b := make([]byte, n)
		d.fill(b)
		if got, e := wire.Unpad(pad(t, b)); e != api.OK || !bytes.Equal(got, b) {
			t.Errorf("%d bytes: error %d", n, e)
		}
	}
}

func TestFramesAtTheLimitsAreRead(t *testing.T) {
	d := drawer(14)
	for _, c := range [][2]int{{0, 0}, {0, maxBody}, {api.MaxWraps, 0}, {api.MaxWraps, maxBody}} {
		f := d.frame(c[0], c[1])
		got, e := wire.ReadFrame(plainFrame(f))
		if e != api.OK || !bytes.Equal(plainFrame(got), plainFrame(f)) {
			t.Errorf("%d wraps, Body of %d: error %d", c[0], c[1], e)
		}
	}
}

// eachChanged goes through bytes with one of them changed.
func eachChanged(b []byte, try func([]byte)) {
	for i := range len(b) * 8 {
		c := bytes.Clone(b)
		c[i/8] ^= 1 << (i % 8)
		try(c)
	}
}

func TestWhatIsReadIsWrittenAsTheSameBytes(t *testing.T) {
	d := drawer(15)
	eachChanged(wire.Event(d.event()), func(b []byte) {
		if e, f := wire.ReadEvent(b); f == api.OK && !bytes.Equal(wire.Event(e), b) {
			t.Errorf("%x is read as %v", b, e)
		}
	})
	eachChanged(frameBytes(t, d.frame(2, 20)), func(b []byte) {
		if f, e := wire.ReadFrame(b); e == api.OK && !bytes.Equal(frameBytes(t, f), b) {
			t.Errorf("%x is read as %v", b, f)
		}
	})
	eachChanged(wire.Heads(d.heads()), func(b []byte) {
		if l, e := wire.ReadHeads(b); e != api.OK || !bytes.Equal(wire.Heads(l), b) {
			t.Errorf("%x is read as %v", b, l)
		}
	})
	eachChanged(pad(t, sample(120)), func(b []byte) {
		if u, e := wire.Unpad(b); e == api.OK && !bytes.Equal(pad(t, u), b) {
			t.Errorf("%x is read as %x", b, u)
		}
	})
}

// Each byte of a frame but the marks and the lengths may be any.
func TestAllBytesOfAFrameAreRead(t *testing.T) {
	d := drawer(16)
	f := d.frame(2, 20)
	b := frameBytes(t, f)
	lengthAt := 45 + 2*54
	for at := range b {
		b[at] ^= 0x80
		got, e := wire.ReadFrame(b)
		fixed := at < 2 || at == 44 || at == lengthAt || at == lengthAt+1
		if fixed != (e == api.ErrForm) || !fixed && wire.SameFrame(got, f) {
			t.Errorf("byte %d: error %d", at, e)
		}
		b[at] ^= 0x80
	}
}

// P6.5
func TestBytesOfOneBucketArePaddedToAsMany(t *testing.T) {
	for n := range 4095 {
		if got := len(pad(t, sample(n))); got != wire.Bucket(n) {
			t.Errorf("%d bytes are padded to %d", n, got)
		}
	}
}

// P1
func TestAnyBytesAreReadOrRefused(t *testing.T) {
	d := drawer(17)
	for i := range 20000 {
		b := make([]byte, i%600)
		d.fill(b)
		if i%2 == 0 && len(b) > 44 {
			b[0], b[1], b[44] = 0x45, 0x53, b[44]%4
		}
		if e, f := wire.ReadEvent(b); f == api.OK && !bytes.Equal(wire.Event(e), b) {
			t.Errorf("%x is read as %v", b, e)
		}
		if f, e := wire.ReadFrame(b); e == api.OK && !bytes.Equal(frameBytes(t, f), b) {
			t.Errorf("%x is read as %v", b, f)
		}
		if l, e := wire.ReadHeads(b); e == api.OK && !bytes.Equal(wire.Heads(l), b) {
			t.Errorf("%x is read as %v", b, l)
		}
		if u, e := wire.Unpad(b); e == api.OK && !bytes.Equal(pad(t, u), b) {
			t.Errorf("%x is read as %x", b, u)
		}
	}
}

// P3
func TestBytesThatAreHandedInStay(t *testing.T) {
	d := drawer(18)
	for _, whole := range [][]byte{wire.Event(d.event()), frameBytes(t, d.frame(2, 20)), wire.Heads(d.heads()), pad(t, sample(100)), sample(126), sample(4095), {}} {
		b, room := roomy(whole)
		was := bytes.Clone(room)
		for n := range len(b) + 1 {
			wire.ReadEvent(b[:n])
			wire.ReadFrame(b[:n])
			wire.ReadHeads(b[:n])
			wire.Pad(b[:n])
			wire.Unpad(b[:n])
		}
		if !bytes.Equal(room, was) {
			t.Errorf("%d bytes: changed", len(b))
		}
	}
}

// roomyFrame is a frame whose lists have spare room, and the room of both.
func roomyFrame(f api.Frame) (api.Frame, []api.Wrap, []byte) {
	wraps := append(slices.Clone(f.Wraps), slices.Repeat([]api.Wrap{{To: 0xa5}}, 100)...)
	body, room := roomy(f.Body)
	f.Wraps, f.Body = wraps[:len(f.Wraps)], body
	return f, wraps, room
}

func TestFramesThatAreHandedInStay(t *testing.T) {
	d := drawer(19)
	for _, c := range [][2]int{{0, 0}, {2, 20}, {64, 4112}, {65, 10}, {2, 4113}} {
		f, wraps, room := roomyFrame(d.frame(c[0], c[1]))
		wasWraps, was := slices.Clone(wraps), bytes.Clone(room)
		wire.Frame(f)
		wire.Open(f)
		wire.SameFrame(f, f)
		if !slices.Equal(wraps, wasWraps) || !bytes.Equal(room, was) {
			t.Errorf("%d wraps, Body of %d: changed", c[0], c[1])
		}
	}
}

func TestBytesThatAreAnsweredAreTheCallers(t *testing.T) {
	d := drawer(20)
	for _, c := range [][2]int{{0, 0}, {0, 1}, {2, 20}, {64, 4094}} {
		f, wraps, room := roomyFrame(d.frame(c[0], c[1]))
		padded, paddedRoom := roomy(pad(t, f.Body))
		for name, call := range map[string]func() []byte{
			"Event": func() []byte { return wire.Event(api.Event{Char: 1}) },
			"Heads": func() []byte { return wire.Heads([api.Authors]api.Head{{Count: 1}}) },
			"Frame": func() []byte { return frameBytes(t, f) },
			"Open":  func() []byte { return wire.Open(f) },
			"Pad":   func() []byte { return pad(t, f.Body) },
			"Unpad": func() []byte { b, _ := wire.Unpad(padded); return b },
		} {
			wasWraps, was, wasPadded := slices.Clone(wraps), bytes.Clone(room), bytes.Clone(paddedRoom)
			one, other := call(), call()
			want := bytes.Clone(other)
			clear(one[:cap(one)])
			if !slices.Equal(wraps, wasWraps) || !bytes.Equal(room, was) || !bytes.Equal(paddedRoom, wasPadded) || !bytes.Equal(other, want) {
				t.Errorf("%s: the answer lies in another list", name)
			}
			clear(wraps)
			clear(room)
			clear(paddedRoom)
			if !bytes.Equal(other, want) {
				t.Errorf("%s: the answer lies in what was handed in", name)
			}
			copy(wraps, wasWraps)
			copy(room, was)
			copy(paddedRoom, wasPadded)
		}
	}
}

func TestFramesThatAreReadAreTheCallers(t *testing.T) {
	d := drawer(21)
	for _, c := range [][2]int{{0, 0}, {0, 1}, {1, 0}, {2, 20}, {64, 4112}} {
		f := d.frame(c[0], c[1])
		b, room := roomy(frameBytes(t, f))
		was := bytes.Clone(room)
		one, _ := wire.ReadFrame(b)
		other, _ := wire.ReadFrame(b)
		clear(one.Body[:cap(one.Body)])
		clear(one.Wraps[:cap(one.Wraps)])
		if !bytes.Equal(room, was) || !wire.SameFrame(other, f) {
			t.Errorf("%d wraps, Body of %d: what was read lies in another list", c[0], c[1])
		}
		clear(room)
		if !wire.SameFrame(other, f) {
			t.Errorf("%d wraps, Body of %d: what was read lies in the bytes", c[0], c[1])
		}
	}
}

// P6
func TestSameThingsHaveTheSameAnswersEveryTime(t *testing.T) {
	d := drawer(22)
	e, f := d.event(), d.frame(2, 20)
	first, firstFrame := wire.Event(e), frameBytes(t, f)
	refusesFrame(t, firstFrame[:60], "cut")
	refusesEvent(t, firstFrame, "a frame")
	if !bytes.Equal(wire.Event(e), first) || !bytes.Equal(frameBytes(t, f), firstFrame) {
		t.Error("something was kept")
	}
	if got, e := wire.ReadFrame(firstFrame); e != api.OK || !wire.SameFrame(got, f) {
		t.Errorf("%v, error %d", got, e)
	}
}
