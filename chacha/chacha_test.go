package chacha_test

import (
	"bytes"
	"encoding/binary"
	"encoding/hex"
	"math"
	"strings"
	"testing"

	"escritoire/api"
	"escritoire/chacha"
)

// sizes are those about one, two and three blocks.
var sizes = []int{0, 1, 2, 3, 31, 32, 62, 63, 64, 65, 66, 126, 127, 128, 129, 130, 191, 192, 193, 1000}

// counters are those about 0, a carry into each byte, and the end, where they go round.
var counters = []uint32{0, 1, 2, 255, 256, 65535, 65536, 1<<24 - 1, 1 << 24, 1<<31 - 1, 1 << 31, math.MaxUint32 - 2, math.MaxUint32 - 1, math.MaxUint32}

func sample(n int) []byte {
	b := make([]byte, n)
	for i := range b {
		b[i] = byte(i*11 + i>>8 + 5)
	}
	return b
}

// roomy is a list with spare room that isn't empty, and all of the room.
func roomy(b []byte) (list, room []byte) {
	room = append(bytes.Clone(b), bytes.Repeat([]byte{0xa5}, 200)...)
	return room[:len(b)], room
}

func unhex(t *testing.T, s string) []byte {
	t.Helper()
	b, err := hex.DecodeString(strings.ReplaceAll(s, " ", ""))
	if err != nil {
		t.Fatal(err)
	}
	return b
}

func row(n int) api.Key {
	var k api.Key
	for i := range k {
		k[i] = byte(n + i)
	}
	return k
}

func turned(x uint32, n int) uint32 { return x<<n | x>>(32-n) }

// plainQuarter is the chapter's words once more.
func plainQuarter(s *[16]uint32, a, b, c, d int) {
	for _, by := range [][2]int{{16, 12}, {8, 7}} {
		s[a] += s[b]
		s[d] = turned(s[d]^s[a], by[0])
		s[c] += s[d]
		s[b] = turned(s[b]^s[c], by[1])
	}
}

// plainBlock is the chapter's words once more.
func plainBlock(k api.Key, n api.Nonce, counter uint32) []byte {
	all := append([]byte("expand 32-byte k"), k[:]...)
	all = append(binary.LittleEndian.AppendUint32(all, counter), n[:]...)
	var first [16]uint32
	for i := range first {
		first[i] = binary.LittleEndian.Uint32(all[4*i:])
	}
	s := first
	for range 10 {
		for _, q := range [][4]int{{0, 4, 8, 12}, {1, 5, 9, 13}, {2, 6, 10, 14}, {3, 7, 11, 15}, {0, 5, 10, 15}, {1, 6, 11, 12}, {2, 7, 8, 13}, {3, 4, 9, 14}} {
			plainQuarter(&s, q[0], q[1], q[2], q[3])
		}
	}
	var out []byte
	for i := range s {
		out = binary.LittleEndian.AppendUint32(out, s[i]+first[i])
	}
	return out
}

// P3.1
func TestQuarterOfTheExample(t *testing.T) {
	a, b, c, d := chacha.Quarter(0x11111111, 0x01020304, 0x9b8d6f43, 0x01234567)
	if a != 0xea2a92f4 || b != 0xcb1cf8ce || c != 0x4581472e || d != 0x5881c4bb {
		t.Errorf("%x %x %x %x", a, b, c, d)
	}
}

// RFC 8439, 2.2.1
func TestQuarterOfTheRFCsState(t *testing.T) {
	a, b, c, d := chacha.Quarter(0x516461b1, 0x2a5f714c, 0x53372767, 0x3d631689)
	if a != 0xbdb886dc || b != 0xcfacafd2 || c != 0xe46bea80 || d != 0xccc07c79 {
		t.Errorf("%x %x %x %x", a, b, c, d)
	}
}

func TestQuarterOfZerosIsZeros(t *testing.T) {
	if a, b, c, d := chacha.Quarter(0, 0, 0, 0); a|b|c|d != 0 {
		t.Errorf("%x %x %x %x", a, b, c, d)
	}
}

func TestQuarterIsTheChapters(t *testing.T) {
	edges := []uint32{0, 1, 0x80000000, 0x7fffffff, 0xffffffff, 0x12345678}
	for _, a := range edges {
		for _, b := range edges {
			for _, c := range edges {
				for _, d := range edges {
					want := [16]uint32{a, b, c, d}
					plainQuarter(&want, 0, 1, 2, 3)
					var got [16]uint32
					got[0], got[1], got[2], got[3] = chacha.Quarter(a, b, c, d)
					if got != want {
						t.Fatalf("%x %x %x %x: %x, want %x", a, b, c, d, got[:4], want[:4])
					}
				}
			}
		}
	}
}

// P3.2
func TestBlockOfTheRFC(t *testing.T) {
	var last api.Key
	last[31] = 1
	var second api.Key
	second[1] = 0xff
	for i, c := range []struct {
		k       api.Key
		n       api.Nonce
		counter uint32
		want    string
	}{
		{row(0), api.Nonce{3: 9, 7: 0x4a}, 1, "10f1e7e4d13b5915500fdd1fa32071c4c7d1f4c733c068030422aa9ac3d46c4ed2826446079faa0914c2d705d98b02a2b5129cd1de164eb9cbd083e8a2503c4e"},
		{api.Key{}, api.Nonce{}, 0, "76b8e0ada0f13d90405d6ae55386bd28bdd219b8a08ded1aa836efcc8b770dc7da41597c5157488d7724e03fb8d84a376a43b8f41518a11cc387b669b2ee6586"},
		{api.Key{}, api.Nonce{}, 1, "9f07e7be5551387a98ba977c732d080dcb0f29a048e3656912c6533e32ee7aed29b721769ce64e43d57133b074d839d531ed1f28510afb45ace10a1f4b794d6f"},
		{last, api.Nonce{}, 1, "3aeb5224ecf849929b9d828db1ced4dd832025e8018b8160b82284f3c949aa5a8eca00bbb4a73bdad192b5c42f73f2fd4e273644c8b36125a64addeb006c13a0"},
		{second, api.Nonce{}, 2, "72d54dfbf12ec44b362692df94137f328fea8da73990265ec1bbbea1ae9af0ca13b25aa26cb4a648cb9b9d1be65b2c0924a66c54d545ec1b7374f4872e99f096"},
		{api.Key{}, api.Nonce{11: 2}, 0, "c2c64d378cd536374ae204b9ef933fcd1a8b2288b3dfa49672ab765b54ee27c78a970e0e955c14f3a88e741b97c286f75f8fc299e8148362fa198a39531bed6d"},
	} {
		b := chacha.Block(c.k, c.n, c.counter)
		if !bytes.Equal(b[:], unhex(t, c.want)) {
			t.Errorf("%d: %x, want %s", i, b, c.want)
		}
	}
}

func TestBlockIsTheChapters(t *testing.T) {
	full := api.Key(bytes.Repeat([]byte{0xff}, 32))
	for _, k := range []api.Key{{}, full, row(1), api.Key(sample(32))} {
		for _, n := range []api.Nonce{{}, api.Nonce(full[:12]), api.Nonce(sample(12))} {
			for _, counter := range counters {
				if got := chacha.Block(k, n, counter); !bytes.Equal(got[:], plainBlock(k, n, counter)) {
					t.Errorf("%x %x %d: %x", k, n, counter, got)
				}
			}
		}
	}
}

func TestEachBitChangesTheBlock(t *testing.T) {
	seen := map[[64]byte]bool{chacha.Block(api.Key{}, api.Nonce{}, 0): true}
	look := func(b [64]byte) {
		if seen[b] {
			t.Errorf("twice: %x", b)
		}
		seen[b] = true
	}
	for i := range 256 {
		var k api.Key
		k[i/8] = 1 << (i % 8)
		look(chacha.Block(k, api.Nonce{}, 0))
	}
	for i := range 96 {
		var n api.Nonce
		n[i/8] = 1 << (i % 8)
		look(chacha.Block(api.Key{}, n, 0))
	}
	for i := range 32 {
		look(chacha.Block(api.Key{}, api.Nonce{}, 1<<i))
	}
}

// P3.3
func TestXorOfTheRFC(t *testing.T) {
	text := "Ladies and Gentlemen of the class of '99: If I could offer you only one tip for the future, sunscreen would be it."
	want := unhex(t, "6e2e359a2568f98041ba0728dd0d6981e97e7aec1d4360c20a27afccfd9fae0bf91b65c5524733ab8f593dabcd62b3571639d624e65152ab8f530c359f0861d807ca0dbf500d6a6156a38e088a22b65e52bc514d16ccf806818ce91ab77937365af90bbf74a35be6b40b8eedf2785e42874d")
	if got := chacha.Xor(row(0), api.Nonce{7: 0x4a}, 1, []byte(text)); !bytes.Equal(got, want) {
		t.Errorf("%x", got)
	}
}

func TestXorOfZerosIsTheStream(t *testing.T) {
	k, n := api.Key(sample(32)), api.Nonce(sample(12))
	for _, counter := range counters {
		var stream []byte
		for i := range 17 {
			stream = append(stream, plainBlock(k, n, counter+uint32(i))...)
		}
		for _, size := range sizes {
			if got := chacha.Xor(k, n, counter, make([]byte, size)); !bytes.Equal(got, stream[:size]) {
				t.Errorf("%d bytes from %d on: %x, want %x", size, counter, got, stream[:size])
			}
		}
	}
}

func TestXorTurnsEachByte(t *testing.T) {
	k, n := api.Key(sample(32)), api.Nonce(sample(12))
	for _, size := range sizes {
		b := sample(size)
		stream, got := chacha.Xor(k, n, 7, make([]byte, size)), chacha.Xor(k, n, 7, b)
		if len(got) != size {
			t.Fatalf("%d bytes of %d", len(got), size)
		}
		for i := range b {
			if got[i] != b[i]^stream[i] {
				t.Errorf("byte %d of %d: %x", i, size, got[i])
			}
		}
	}
}

func TestTheCounterGoesRound(t *testing.T) {
	k, n := row(3), api.Nonce{1, 2, 3}
	got := chacha.Xor(k, n, math.MaxUint32, make([]byte, 192))
	var want []byte
	for _, counter := range []uint32{math.MaxUint32, 0, 1} {
		want = append(want, plainBlock(k, n, counter)...)
	}
	if !bytes.Equal(got, want) {
		t.Errorf("%x, want %x", got, want)
	}
}

func TestXorOfNothing(t *testing.T) {
	for _, b := range [][]byte{nil, {}} {
		if got := chacha.Xor(row(0), api.Nonce{}, math.MaxUint32, b); len(got) != 0 {
			t.Errorf("%x", got)
		}
	}
}

// P3.4
func TestXorOfXorIsWhatItWas(t *testing.T) {
	for _, counter := range counters {
		for _, size := range sizes {
			k, n, b := row(size), api.Nonce{byte(size), 1}, sample(size)
			if got := chacha.Xor(k, n, counter, chacha.Xor(k, n, counter, b)); !bytes.Equal(got, b) {
				t.Errorf("%d bytes from %d on: %x", size, counter, got)
			}
		}
	}
}

// P3
func TestWhatIsHandedInStays(t *testing.T) {
	for _, size := range sizes {
		b, room := roomy(sample(size))
		was := bytes.Clone(room)
		chacha.Xor(row(0), api.Nonce{}, math.MaxUint32, b)
		if !bytes.Equal(room, was) {
			t.Errorf("%d bytes: changed", size)
		}
	}
}

func TestXorIsTheCallers(t *testing.T) {
	for _, size := range sizes {
		b, room := roomy(sample(size))
		was := bytes.Clone(room)
		one, other := chacha.Xor(row(0), api.Nonce{}, 0, b), chacha.Xor(row(0), api.Nonce{}, 0, b)
		want := bytes.Clone(other)
		clear(one[:cap(one)])
		if !bytes.Equal(room, was) || !bytes.Equal(other, want) {
			t.Errorf("%d bytes: the answer lies in another list", size)
		}
		clear(room)
		if !bytes.Equal(other, want) {
			t.Errorf("%d bytes: the answer lies in what was handed in", size)
		}
	}
}

// P6
func TestSameThingsHaveTheSameAnswersEveryTime(t *testing.T) {
	first, bytesFirst := chacha.Block(row(0), api.Nonce{1}, 5), chacha.Xor(row(0), api.Nonce{1}, 5, sample(200))
	chacha.Block(row(9), api.Nonce{2}, 6)
	chacha.Xor(row(9), api.Nonce{2}, math.MaxUint32, sample(300))
	if chacha.Block(row(0), api.Nonce{1}, 5) != first || !bytes.Equal(chacha.Xor(row(0), api.Nonce{1}, 5, sample(200)), bytesFirst) {
		t.Error("something was kept")
	}
}
