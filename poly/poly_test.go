package poly_test

import (
	"bytes"
	"encoding/hex"
	"math/big"
	"slices"
	"strings"
	"testing"

	"escritoire/api"
	"escritoire/poly"
)

// sizes are those about one, two, three and more blocks.
var sizes = []int{0, 1, 2, 7, 8, 9, 14, 15, 16, 17, 18, 30, 31, 32, 33, 34, 47, 48, 49, 63, 64, 65, 255, 256, 257, 4096, 4099}

func sample(n int) []byte {
	b := make([]byte, n)
	for i := range b {
		b[i] = byte(i*11 + i>>8 + 5)
	}
	return b
}

// roomy is a list with spare room that isn't empty, and all of the room.
func roomy(b []byte) (list, room []byte) {
	room = append(bytes.Clone(b), bytes.Repeat([]byte{0xa5}, 200)...)
	return room[:len(b)], room
}

func unhex(t *testing.T, s string) []byte {
	t.Helper()
	b, err := hex.DecodeString(strings.ReplaceAll(s, " ", ""))
	if err != nil {
		t.Fatal(err)
	}
	return b
}

func full(n int) []byte { return bytes.Repeat([]byte{0xff}, n) }

func keyOf(r, s []byte) api.Key {
	var k api.Key
	copy(k[:16], r)
	copy(k[16:], s)
	return k
}

func last(k api.Key) api.Tag { return api.Tag(k[16:]) }

// number is that of bytes whose lowest one stands first.
func number(b []byte) *big.Int {
	b = bytes.Clone(b)
	slices.Reverse(b)
	return new(big.Int).SetBytes(b)
}

// lowest are the lowest 16 bytes of a number.
func lowest(n *big.Int) api.Tag {
	var t api.Tag
	for i := range t {
		t[i] = byte(new(big.Int).Rsh(n, uint(8*i)).Uint64())
	}
	return t
}

// modulus is P.
func modulus() *big.Int {
	return new(big.Int).Sub(new(big.Int).Lsh(big.NewInt(1), 130), big.NewInt(5))
}

// clamped is the mask of RFC 8439, 2.5.1, once more.
func clamped(k api.Key) *big.Int {
	mask, _ := new(big.Int).SetString("0ffffffc0ffffffc0ffffffc0fffffff", 16)
	return new(big.Int).And(number(k[:16]), mask)
}

// plainSum is the chapter's words once more, with big numbers.
func plainSum(k api.Key, b []byte) api.Tag {
	r, p, a := clamped(k), modulus(), new(big.Int)
	for block := range slices.Chunk(b, 16) {
		a.Add(a, number(append(bytes.Clone(block), 1)))
		a.Mod(a.Mul(a, r), p)
	}
	return lowest(a.Add(a, number(k[16:])))
}

// P4.1
func TestClampOfFullKey(t *testing.T) {
	r := poly.Clamp(keyOf(full(16), full(16)))
	if hex.EncodeToString(r[:]) != "ffffff0ffcffff0ffcffff0ffcffff0f" {
		t.Errorf("%x", r)
	}
}

// RFC 8439, 2.5.2
func TestClampOfTheRFCsKey(t *testing.T) {
	r := poly.Clamp(api.Key(unhex(t, "85d6be7857556d337f4452fe42d506a80103808afb0db2fd4abff6af4149f51b")))
	if hex.EncodeToString(r[:]) != "85d6be0854556d037c44520e40d50608" {
		t.Errorf("%x", r)
	}
}

func isClampedAway(bit int) bool {
	switch bit / 8 {
	case 3, 7, 11, 15:
		return bit%8 >= 4
	case 4, 8, 12:
		return bit%8 < 2
	}
	return false
}

func TestClampOfEachBit(t *testing.T) {
	for bit := range 256 {
		var k api.Key
		k[bit/8] = 1 << (bit % 8)
		var want [16]byte
		if bit < 128 && !isClampedAway(bit) {
			want[bit/8] = k[bit/8]
		}
		if got := poly.Clamp(k); got != want {
			t.Errorf("bit %d: %x, want %x", bit, got, want)
		}
	}
}

func TestClampOfClampedStays(t *testing.T) {
	for _, k := range []api.Key{{}, keyOf(full(16), nil), api.Key(sample(32))} {
		r := poly.Clamp(k)
		if poly.Clamp(keyOf(r[:], full(16))) != r {
			t.Errorf("%x", k)
		}
	}
}

// P4.2
func TestSumOfTheExample(t *testing.T) {
	k := api.Key(unhex(t, "85d6be7857556d337f4452fe42d506a80103808afb0db2fd4abff6af4149f51b"))
	if got := poly.Sum(k, []byte("Cryptographic Forum Research Group")); hex.EncodeToString(got[:]) != "a8061dc1305136c6c22b8baf0c0127a9" {
		t.Errorf("%x", got)
	}
}

// RFC 8439, A.3
func TestSumOfTheRFC(t *testing.T) {
	ones, zeros := strings.Repeat("ff", 16), strings.Repeat("00", 15)
	for i, c := range []struct{ r, s, b, want string }{
		{"00", "00", strings.Repeat("00", 64), "00" + zeros},
		{"1c9240a5eb55d38af333888604f6b5f0", "473917c1402b80099dca5cbc207075c0", hex.EncodeToString([]byte("'Twas brillig, and the slithy toves\nDid gyre and gimble in the wabe:\nAll mimsy were the borogoves,\nAnd the mome raths outgrabe.")), "4541669a7eaaee61e708dc7cbcc5eb62"},
		{"02", "00", ones, "03" + zeros},
		{"02", ones, "02" + zeros, "03" + zeros},
		{"01", "00", ones + "f0" + ones[2:] + "11" + zeros, "05" + zeros},
		{"01", "00", ones + "fb" + strings.Repeat("fe", 15) + strings.Repeat("01", 16), "00" + zeros},
		{"02", "00", "fd" + ones[2:], "fa" + ones[2:]},
		{"0100000000000000 0400000000000000", "00", "e33594d7505e43b900000000000000003394d7505e4379cd01000000000000000000000000000000000000000000000001000000000000000000000000000000", "14000000000000005500000000000000"},
		{"0100000000000000 0400000000000000", "00", "e33594d7505e43b900000000000000003394d7505e4379cd010000000000000000000000000000000000000000000000", "13" + zeros},
	} {
		got := poly.Sum(keyOf(unhex(t, c.r), unhex(t, c.s)), unhex(t, c.b))
		if !bytes.Equal(got[:], unhex(t, c.want)) {
			t.Errorf("%d: %x, want %s", i, got, c.want)
		}
	}
}

func TestSumIsTheChapters(t *testing.T) {
	for _, k := range []api.Key{{}, {1}, {2}, {0: 5, 15: 15, 31: 255}, keyOf(full(16), full(16)), keyOf(full(16), nil), api.Key(sample(32))} {
		for _, size := range sizes {
			for _, b := range [][]byte{make([]byte, size), full(size), sample(size)} {
				if got, want := poly.Sum(k, b), plainSum(k, b); got != want {
					t.Errorf("key %x, %d bytes: %x, want %x", k, size, got, want)
				}
			}
		}
	}
}

func TestSumOfManyKeys(t *testing.T) {
	state := uint64(1)
	draw := func(b []byte) {
		for i := range b {
			state = state*6364136223846793005 + 1442695040888963407
			b[i] = byte(state >> 56)
		}
	}
	for i := range 3000 {
		var k api.Key
		draw(k[:])
		b := make([]byte, i%100)
		draw(b)
		if got, want := poly.Sum(k, b), plainSum(k, b); got != want {
			t.Errorf("key %x, %x: %x, want %x", k, b, got, want)
		}
	}
}

// adds are blocks that, with r 1, add up to n, which is at least 3 * 2^128.
func adds(n *big.Int) []byte {
	rest := new(big.Int).Sub(n, new(big.Int).Lsh(big.NewInt(3), 128))
	most := number(full(16))
	var b []byte
	for range 3 {
		part := new(big.Int).Set(rest)
		if part.Cmp(most) > 0 {
			part.Set(most)
		}
		rest.Sub(rest, part)
		t := lowest(part)
		b = append(b, t[:]...)
	}
	return b
}

func TestNumbersAboutP(t *testing.T) {
	for _, s := range [][]byte{nil, {1}, full(16), sample(16)} {
		k := keyOf([]byte{1}, s)
		for d := int64(-8); d <= 8; d++ {
			n := new(big.Int).Add(modulus(), big.NewInt(d))
			tag := new(big.Int).Mod(n, modulus())
			want := lowest(tag.Add(tag, number(k[16:])))
			if got := poly.Sum(k, adds(n)); got != want {
				t.Errorf("P and %d: %x, want %x", d, got, want)
			}
		}
	}
}

func TestNumbersAboutEachLimb(t *testing.T) {
	k := keyOf([]byte{1}, []byte{3})
	for bit := uint(0); bit < 128; bit++ {
		for d := int64(-6); d <= 6; d++ {
			n := new(big.Int).Lsh(big.NewInt(1), bit)
			n.Add(n, modulus()).Add(n, big.NewInt(d))
			b := adds(n)
			if got, want := poly.Sum(k, b), plainSum(k, b); got != want {
				t.Errorf("P, 2^%d and %d: %x, want %x", bit, d, got, want)
			}
		}
	}
}

func TestTheByteBehindFewerBytesTells(t *testing.T) {
	k := api.Key(sample(32))
	seen := map[api.Tag]int{}
	for n := range 49 {
		tag := poly.Sum(k, make([]byte, n))
		if m, ok := seen[tag]; ok {
			t.Errorf("%d and %d zeros have the same tag", m, n)
		}
		seen[tag] = n
	}
}

func TestBitsClampedAwayChangeNoTag(t *testing.T) {
	k := api.Key(sample(32))
	for bit := range 128 {
		other := k
		other[bit/8] ^= 1 << (bit % 8)
		if same := poly.Sum(k, sample(33)) == poly.Sum(other, sample(33)); same != isClampedAway(bit) {
			t.Errorf("bit %d: the same tag: %v", bit, same)
		}
	}
}

// P4.3
func TestSumOfNothingIsTheLastHalf(t *testing.T) {
	for _, k := range []api.Key{{}, {1}, keyOf(full(16), full(16)), keyOf(nil, full(16)), api.Key(sample(32))} {
		for _, b := range [][]byte{nil, {}} {
			if got := poly.Sum(k, b); got != last(k) {
				t.Errorf("%x: %x", k, got)
			}
		}
	}
}

func TestSumWithROfZeroIsTheLastHalf(t *testing.T) {
	away := keyOf(nil, sample(16))
	for bit := range 128 {
		if isClampedAway(bit) {
			away[bit/8] |= 1 << (bit % 8)
		}
	}
	for _, k := range []api.Key{{}, keyOf(nil, full(16)), keyOf(nil, sample(16)), away} {
		for _, size := range sizes {
			for _, b := range [][]byte{make([]byte, size), full(size), sample(size)} {
				if got := poly.Sum(k, b); got != last(k) {
					t.Errorf("%x, %d bytes: %x", k, size, got)
				}
			}
		}
	}
}

// P3
func TestWhatIsHandedInStays(t *testing.T) {
	for _, size := range sizes {
		b, room := roomy(sample(size))
		was := bytes.Clone(room)
		got := poly.Sum(api.Key(sample(32)), b)
		if !bytes.Equal(room, was) {
			t.Errorf("%d bytes: changed", size)
		}
		if got != poly.Sum(api.Key(sample(32)), sample(size)) {
			t.Errorf("%d bytes: spare room is looked at", size)
		}
	}
}

// P6
func TestSameBytesHaveTheSameTagEveryTime(t *testing.T) {
	k := api.Key(sample(32))
	first := poly.Sum(k, sample(100))
	poly.Sum(keyOf(full(16), full(16)), full(70))
	poly.Clamp(keyOf(full(16), nil))
	if poly.Sum(k, sample(100)) != first {
		t.Error("something was kept")
	}
}
