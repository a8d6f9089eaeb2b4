package sha_test

import (
	"bytes"
	"crypto/sha256"
	"encoding"
	"encoding/binary"
	"encoding/hex"
	"math/big"
	"testing"

	"escritoire/api"
	"escritoire/sha"
)

// edges are lengths at which the padding turns, and some between.
var edges = []int{0, 1, 2, 3, 31, 54, 55, 56, 57, 62, 63, 64, 65, 118, 119, 120, 121, 127, 128, 129, 183, 184, 191, 192, 193, 1000, 8191, 8192, 65536}

func sample(n int) []byte {
	b := make([]byte, n)
	for i := range b {
		b[i] = byte(i*7 + i>>8 + 3)
	}
	return b
}

// roomy is a list with spare room that isn't empty, and all of the room.
func roomy(b []byte) (list, room []byte) {
	room = append(bytes.Clone(b), bytes.Repeat([]byte{0xa5}, 200)...)
	return room[:len(b)], room
}

func primes(n int) []int64 {
	var l []int64
next:
	for p := int64(2); len(l) < n; p++ {
		for _, q := range l {
			if p%q == 0 {
				continue next
			}
		}
		l = append(l, p)
	}
	return l
}

// rootBits are the first 32 bits behind the point of a prime's root of a degree.
func rootBits(p int64, degree int) uint32 {
	target := new(big.Int).Lsh(big.NewInt(p), uint(32*degree))
	low, high := big.NewInt(0), new(big.Int).Lsh(big.NewInt(p), 32)
	for low.Cmp(high) < 0 {
		mid := new(big.Int).Add(low, high)
		mid.Add(mid, big.NewInt(1)).Rsh(mid, 1)
		if new(big.Int).Exp(mid, big.NewInt(int64(degree)), nil).Cmp(target) <= 0 {
			low = mid
		} else {
			high = mid.Sub(mid, big.NewInt(1))
		}
	}
	return uint32(low.Uint64())
}

// libraryStep is a step of the library's hash, whose state goes in and comes out as bytes.
func libraryStep(t *testing.T, s sha.State, block []byte) sha.State {
	t.Helper()
	state := []byte("sha\x03")
	for _, w := range s {
		state = binary.BigEndian.AppendUint32(state, w)
	}
	state = append(state, make([]byte, 64+8)...)
	h := sha256.New()
	if err := h.(encoding.BinaryUnmarshaler).UnmarshalBinary(state); err != nil {
		t.Fatal(err)
	}
	h.Write(block)
	out, err := h.(encoding.BinaryMarshaler).MarshalBinary()
	if err != nil {
		t.Fatal(err)
	}
	for i := range s {
		s[i] = binary.BigEndian.Uint32(out[4+4*i:])
	}
	return s
}

// wordsStep is P1.2, written down once more word by word, with the words K reckoned from the primes.
func wordsStep(s sha.State, block []byte) sha.State {
	turn := func(x uint32, n uint) uint32 { return x>>n | x<<(32-n) }
	w := make([]uint32, 64)
	for i := range w {
		if i < 16 {
			w[i] = binary.BigEndian.Uint32(block[4*i:])
			continue
		}
		x, y := w[i-2], w[i-15]
		w[i] = (turn(x, 17) ^ turn(x, 19) ^ x>>10) + w[i-7] + (turn(y, 7) ^ turn(y, 18) ^ y>>3) + w[i-16]
	}
	a, b, c, d, e, f, g, h := s[0], s[1], s[2], s[3], s[4], s[5], s[6], s[7]
	for i, p := range primes(64) {
		up := h + (turn(e, 6) ^ turn(e, 11) ^ turn(e, 25)) + ((e & f) ^ (^e & g)) + rootBits(p, 3) + w[i]
		over := (turn(a, 2) ^ turn(a, 13) ^ turn(a, 22)) + ((a & b) ^ (a & c) ^ (b & c))
		a, b, c, d, e, f, g, h = up+over, a, b, c, d+up, e, f, g
	}
	for i, x := range []uint32{a, b, c, d, e, f, g, h} {
		s[i] += x
	}
	return s
}

// P1.1
func TestPadIsMarkZerosAndLength(t *testing.T) {
	for n := range 300 {
		b := sample(n)
		want := append(bytes.Clone(b), 0x80)
		for len(want)%64 != 56 {
			want = append(want, 0)
		}
		want = binary.BigEndian.AppendUint64(want, uint64(n)*8)
		if got := sha.Pad(b); !bytes.Equal(got, want) {
			t.Errorf("Pad of %d bytes: %x, want %x", n, got, want)
		}
	}
}

func TestPadSizesAtEdges(t *testing.T) {
	for _, c := range [][2]int{{0, 64}, {1, 64}, {55, 64}, {56, 128}, {63, 128}, {64, 128}, {119, 128}, {120, 192}, {128, 192}, {183, 192}, {184, 256}} {
		if got := len(sha.Pad(sample(c[0]))); got != c[1] {
			t.Errorf("Pad of %d bytes has %d, want %d", c[0], got, c[1])
		}
	}
}

func TestPadTellsLengthsOfSeveralBytes(t *testing.T) {
	for _, n := range []int{31, 32, 8191, 8192, 1<<21 - 1, 1 << 21, 1<<21 + 1} {
		p := sha.Pad(make([]byte, n))
		if got := binary.BigEndian.Uint64(p[len(p)-8:]); got != uint64(n)*8 {
			t.Errorf("Pad of %d bytes tells %d bits", n, got)
		}
	}
}

func TestPadOfNilIsThatOfNoBytes(t *testing.T) {
	want := append([]byte{0x80}, make([]byte, 63)...)
	if !bytes.Equal(sha.Pad(nil), want) || !bytes.Equal(sha.Pad([]byte{}), want) {
		t.Errorf("%x %x", sha.Pad(nil), sha.Pad([]byte{}))
	}
}

func TestStartIsSquareRoots(t *testing.T) {
	for i, p := range primes(8) {
		if got, want := sha.Start()[i], rootBits(p, 2); got != want {
			t.Errorf("word %d: %08x, want %08x", i, got, want)
		}
	}
}

// P1.2
func TestStepIsThatOfTheWords(t *testing.T) {
	states := []sha.State{sha.Start(), {}, {1, 2, 3, 4, 5, 6, 7, 8}, {^uint32(0), ^uint32(0), ^uint32(0), ^uint32(0), ^uint32(0), ^uint32(0), ^uint32(0), ^uint32(0)}}
	blocks := [][]byte{make([]byte, 64), sample(64), bytes.Repeat([]byte{0xff}, 64), sha.Pad([]byte("abc"))}
	for i, s := range states {
		for j, b := range blocks {
			got := sha.Step(s, b)
			if want := wordsStep(s, b); got != want {
				t.Errorf("state %d, block %d: %08x, want %08x", i, j, got, want)
			}
			if want := libraryStep(t, s, b); got != want {
				t.Errorf("state %d, block %d: %08x, the library's %08x", i, j, got, want)
			}
		}
	}
}

func TestStepTakesEachBitOfStateAndBlock(t *testing.T) {
	for i := range 64 * 8 {
		b := make([]byte, 64)
		b[i/8] = 1 << (i % 8)
		if got, want := sha.Step(sha.Start(), b), libraryStep(t, sha.Start(), b); got != want {
			t.Errorf("block's bit %d: %08x, want %08x", i, got, want)
		}
	}
	for i := range 8 * 32 {
		var s sha.State
		s[i/32] = 1 << (i % 32)
		if got, want := sha.Step(s, sample(64)), libraryStep(t, s, sample(64)); got != want {
			t.Errorf("state's bit %d: %08x, want %08x", i, got, want)
		}
	}
}

func TestStepOfNoBlockIsTheState(t *testing.T) {
	if s := sha.Start(); sha.Step(s, nil) != s || sha.Step(s, []byte{}) != s {
		t.Error("no bytes")
	}
	for _, n := range []int{1, 4, 55, 56, 63, 65, 119, 120, 127, 128, 129, 192, 640} {
		for _, s := range []sha.State{{}, sha.Start(), {8, 7, 6, 5, 4, 3, 2, 1}} {
			if got := sha.Step(s, sample(n)); got != s {
				t.Errorf("%d bytes: %08x, want %08x", n, got, s)
			}
		}
	}
	// 64 bytes of room aren't 64 bytes.
	if s := sha.Start(); sha.Step(s, sample(64)[:63]) != s {
		t.Error("room")
	}
}

// P1.3
func TestSumOfKnownBytes(t *testing.T) {
	for _, c := range []struct {
		b    []byte
		want string
	}{
		{nil, "e3b0c44298fc1c149afbf4c8996fb92427ae41e4649b934ca495991b7852b855"},
		{[]byte{}, "e3b0c44298fc1c149afbf4c8996fb92427ae41e4649b934ca495991b7852b855"},
		{[]byte("abc"), "ba7816bf8f01cfea414140de5dae2223b00361a396177a9cb410ff61f20015ad"},
		{[]byte("abcdbcdecdefdefgefghfghighijhijkijkljklmklmnlmnomnopnopq"), "248d6a61d20638b8e5c026930c3e6039a33ce45964ff2167f6ecedd419db06c1"},
		{bytes.Repeat([]byte{'a'}, 1000000), "cdc76e5c9914fb9281a1c7e284d73e67f1809a48a497200e046d39ccc7112cd0"},
	} {
		if d := sha.Sum(c.b); hex.EncodeToString(d[:]) != c.want {
			t.Errorf("%d bytes: %x, want %s", len(c.b), d, c.want)
		}
	}
}

func TestSumIsTheLibrarys(t *testing.T) {
	lengths := edges
	for n := range 260 {
		lengths = append(lengths, n)
	}
	for _, n := range lengths {
		b := sample(n)
		if got, want := sha.Sum(b), api.Key(sha256.Sum256(b)); got != want {
			t.Errorf("%d bytes: %x, want %x", n, got, want)
		}
	}
}

func TestSumIsTheStepsOfPad(t *testing.T) {
	for _, n := range edges {
		p, s := sha.Pad(sample(n)), sha.Start()
		for ; len(p) > 0; p = p[64:] {
			s = sha.Step(s, p[:64])
		}
		var want []byte
		for _, w := range s {
			want = binary.BigEndian.AppendUint32(want, w)
		}
		if got := sha.Sum(sample(n)); !bytes.Equal(got[:], want) {
			t.Errorf("%d bytes: %x, want %x", n, got, want)
		}
	}
}

// P1.4
func TestPadIsWholeBlocksAndTellsTheBytes(t *testing.T) {
	for _, n := range edges {
		for _, b := range [][]byte{sample(n), make([]byte, n), bytes.Repeat([]byte{0x80}, n)} {
			p := sha.Pad(b)
			if len(p)%64 != 0 {
				t.Errorf("%d bytes: Pad has %d", n, len(p))
			}
			told := binary.BigEndian.Uint64(p[len(p)-8:]) / 8
			if told != uint64(n) || !bytes.Equal(p[:told], b) {
				t.Errorf("%d bytes: Pad tells others", n)
			}
		}
	}
}

func TestPadOfUnlikeBytesIsUnlike(t *testing.T) {
	seen := map[string]int{}
	for n := range 200 {
		p := string(sha.Pad(make([]byte, n)))
		if m, there := seen[p]; there {
			t.Errorf("Pad of %d and of %d zeros are the same", m, n)
		}
		seen[p] = n
	}
	if bytes.Equal(sha.Pad([]byte{1}), sha.Pad([]byte{1, 0x80})) {
		t.Error("the mark alone is no byte")
	}
}

// P3
func TestWhatIsHandedInStays(t *testing.T) {
	for _, n := range edges {
		b, room := roomy(sample(n))
		was := bytes.Clone(room)
		sha.Sum(b)
		sha.Pad(b)
		sha.Step(sha.Start(), b)
		if !bytes.Equal(room, was) {
			t.Errorf("%d bytes: changed", n)
		}
	}
}

func TestPadIsTheCallers(t *testing.T) {
	for _, n := range edges {
		b, room := roomy(sample(n))
		was := bytes.Clone(room)
		one, other := sha.Pad(b), sha.Pad(b)
		want := bytes.Clone(other)
		clear(one[:cap(one)])
		if !bytes.Equal(room, was) || !bytes.Equal(other, want) {
			t.Errorf("%d bytes: the answer lies in another list", n)
		}
		clear(room)
		if !bytes.Equal(other, want) {
			t.Errorf("%d bytes: the answer lies in what was handed in", n)
		}
	}
}

// P6
func TestSameBytesHaveTheSameAnswersEveryTime(t *testing.T) {
	first := sha.Sum(sample(100))
	sha.Sum(sample(7))
	sha.Step(sha.State{1}, sample(64))
	if sha.Sum(sample(100)) != first || sha.Start() != sha.Start() {
		t.Error("something was kept")
	}
}
