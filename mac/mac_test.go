package mac_test

import (
	"bytes"
	"crypto/hkdf"
	"crypto/hmac"
	"crypto/sha256"
	"encoding/hex"
	"math"
	"strings"
	"testing"

	"escritoire/api"
	"escritoire/mac"
	"escritoire/sha"
)

// keySizes are those about a block, and some that are digested first.
var keySizes = []int{0, 1, 31, 32, 33, 62, 63, 64, 65, 66, 127, 128, 129, 131, 1000}

// textSizes are those at which what is digested has one block more.
var textSizes = []int{0, 1, 54, 55, 56, 57, 63, 64, 65, 118, 119, 120, 121, 127, 128, 129, 1000}

func sample(n int) []byte {
	b := make([]byte, n)
	for i := range b {
		b[i] = byte(i*11 + i>>8 + 5)
	}
	return b
}

// roomy is a list with spare room that isn't empty, and all of the room.
func roomy(b []byte) (list, room []byte) {
	room = append(bytes.Clone(b), bytes.Repeat([]byte{0xa5}, 200)...)
	return room[:len(b)], room
}

func unhex(t *testing.T, s string) []byte {
	t.Helper()
	b, err := hex.DecodeString(strings.ReplaceAll(s, " ", ""))
	if err != nil {
		t.Fatal(err)
	}
	return b
}

func libraryHmac(key, b []byte) []byte {
	h := hmac.New(sha256.New, key)
	h.Write(b)
	return h.Sum(nil)
}

func expand(t *testing.T, k api.Key, info []byte, n int) []byte {
	t.Helper()
	b, e := mac.Expand(k, info, n)
	if e != api.OK || len(b) != n {
		t.Fatalf("Expand to %d: %d bytes, error %d", n, len(b), e)
	}
	return b
}

// P2.1
func TestHmacOfRFC4231(t *testing.T) {
	for i, c := range []struct {
		key, b []byte
		want   string
	}{
		{bytes.Repeat([]byte{0x0b}, 20), []byte("Hi There"), "b0344c61d8db38535ca8afceaf0bf12b881dc200c9833da726e9376c2e32cff7"},
		{[]byte("Jefe"), []byte("what do ya want for nothing?"), "5bdcc146bf60754e6a042426089575c75a003f089d2739839dec58b964ec3843"},
		{bytes.Repeat([]byte{0xaa}, 20), bytes.Repeat([]byte{0xdd}, 50), "773ea91e36800e46854db8ebd09181a72959098b3ef8c122d9635514ced565fe"},
		{bytes.Repeat([]byte{0xaa}, 131), []byte("Test Using Larger Than Block-Size Key - Hash Key First"), "60e431591ee0b67f0d8a26aacbf5b77f8e0bc6213728c5140546040f0ee37f54"},
	} {
		if d := mac.Hmac(c.key, c.b); hex.EncodeToString(d[:]) != c.want {
			t.Errorf("%d: %x, want %s", i, d, c.want)
		}
	}
}

func TestHmacOfNothing(t *testing.T) {
	for _, d := range []api.Key{mac.Hmac(nil, nil), mac.Hmac([]byte{}, []byte{}), mac.Hmac(nil, []byte{}), mac.Hmac([]byte{}, nil)} {
		if hex.EncodeToString(d[:]) != "b613679a0814d9ec772f95d778c35fc5ff1697c493715653c6c712144292c5ad" {
			t.Errorf("%x", d)
		}
	}
}

func TestHmacIsTheLibrarys(t *testing.T) {
	for _, n := range keySizes {
		for _, m := range textSizes {
			got, want := mac.Hmac(sample(n), sample(m)), libraryHmac(sample(n), sample(m))
			if !bytes.Equal(got[:], want) {
				t.Errorf("key of %d, %d bytes: %x, want %x", n, m, got, want)
			}
		}
	}
}

func TestHmacIsTwoSums(t *testing.T) {
	for _, n := range keySizes {
		k := sample(n)
		if n > 64 {
			d := sha.Sum(k)
			k = d[:]
		}
		k = append(k, make([]byte, 64-len(k))...)
		var in, out []byte
		for _, x := range k {
			in, out = append(in, x^0x36), append(out, x^0x5c)
		}
		first := sha.Sum(append(in, "text"...))
		if got, want := mac.Hmac(sample(n), []byte("text")), sha.Sum(append(out, first[:]...)); got != want {
			t.Errorf("key of %d: %x, want %x", n, got, want)
		}
	}
}

func TestHmacOfLongKeyIsThatOfItsSum(t *testing.T) {
	for _, n := range []int{65, 66, 128, 1000} {
		d := sha.Sum(sample(n))
		if mac.Hmac(sample(n), []byte("x")) != mac.Hmac(d[:], []byte("x")) {
			t.Errorf("key of %d", n)
		}
	}
	for _, n := range []int{0, 63, 64} {
		d := sha.Sum(sample(n))
		if mac.Hmac(sample(n), []byte("x")) == mac.Hmac(d[:], []byte("x")) {
			t.Errorf("key of %d is digested", n)
		}
	}
}

// P2.2
func TestExtractIsHmac(t *testing.T) {
	for _, n := range keySizes {
		for _, m := range textSizes {
			if got, want := mac.Extract(sample(n), sample(m)), mac.Hmac(sample(n), sample(m)); got != want {
				t.Errorf("salt of %d, secret of %d: %x, want %x", n, m, got, want)
			}
		}
	}
	if mac.Extract(nil, nil) != mac.Hmac(nil, nil) {
		t.Error("nothing")
	}
}

func TestExtractAndExpandOfRFC5869(t *testing.T) {
	row := func(from, n int) []byte {
		b := make([]byte, n)
		for i := range b {
			b[i] = byte(from + i)
		}
		return b
	}
	for i, c := range []struct {
		secret, salt, info []byte
		key, out           string
	}{
		{bytes.Repeat([]byte{0x0b}, 22), row(0, 13), row(0xf0, 10),
			"077709362c2e32df0ddc3f0dc47bba6390b6c73bb50f9c3122ec844ad7c2b3e5",
			"3cb25f25faacd57a90434f64d0362f2a2d2d0a90cf1a5a4c5db02d56ecc4c5bf34007208d5b887185865"},
		{row(0, 80), row(0x60, 80), row(0xb0, 80),
			"06a6b88c5853361a06104c9ceb35b45cef760014904671014a193f40c15fc244",
			"b11e398dc80327a1c8e7f78c596a49344f012eda2d4efad8a050cc4c19afa97c59045a99cac7827271cb41c65e590e09da3275600c2f09b8367793a9aca3db71cc30c58179ec3e87c14c01d5c1f3434f1d87"},
		{bytes.Repeat([]byte{0x0b}, 22), nil, nil,
			"19ef24a32c717b167f33a91d6f648bdf96596776afdb6377ac434c1c293ccb04",
			"8da4e775a563c18f715f802a063c5a31b8a11f5c5ee1879ec3454e5f3c738d2d9d201395faa4b61a96c8"},
	} {
		k := mac.Extract(c.salt, c.secret)
		if !bytes.Equal(k[:], unhex(t, c.key)) {
			t.Errorf("%d: key %x", i, k)
		}
		want := unhex(t, c.out)
		if got := expand(t, k, c.info, len(want)); !bytes.Equal(got, want) {
			t.Errorf("%d: %x, want %x", i, got, want)
		}
	}
}

func TestExpandIsTheLibrarys(t *testing.T) {
	k := api.Key(sample(32))
	for _, m := range []int{0, 1, 32, 63, 64, 65, 1000} {
		for _, n := range []int{1, 2, 31, 32, 33, 63, 64, 65, 8128, 8129, 8159, 8160} {
			want, err := hkdf.Expand(sha256.New, k[:], string(sample(m)), n)
			if err != nil {
				t.Fatal(err)
			}
			if got := expand(t, k, sample(m), n); !bytes.Equal(got, want) {
				t.Errorf("info of %d, %d bytes: %x, want %x", m, n, got, want)
			}
		}
	}
}

func TestExpandIsHmacsInARow(t *testing.T) {
	k, info := api.Key(sample(32)), []byte("info")
	var want, last []byte
	for i := 1; i <= 255; i++ {
		d := mac.Hmac(k[:], append(append(bytes.Clone(last), info...), byte(i)))
		last = d[:]
		want = append(want, last...)
	}
	if got := expand(t, k, info, 8160); !bytes.Equal(got, want) {
		t.Errorf("%x, want %x", got, want)
	}
}

func TestExpandOutOfRange(t *testing.T) {
	for _, n := range []int{math.MinInt, math.MinInt32, -8160, -32, -1, 8161, 8192, 1 << 20, math.MaxInt32, math.MaxInt} {
		if b, e := mac.Expand(api.Key{1}, []byte("info"), n); e != api.ErrRange || len(b) != 0 {
			t.Errorf("%d: %d bytes, error %d", n, len(b), e)
		}
	}
}

func TestExpandToNothing(t *testing.T) {
	for _, info := range [][]byte{nil, {}, []byte("info")} {
		if b, e := mac.Expand(api.Key{1}, info, 0); e != api.OK || len(b) != 0 {
			t.Errorf("%x %d", b, e)
		}
	}
}

func TestExpandOfNilInfoIsThatOfNone(t *testing.T) {
	if !bytes.Equal(expand(t, api.Key{1}, nil, 65), expand(t, api.Key{1}, []byte{}, 65)) {
		t.Error("unlike")
	}
}

// P2.3
func TestEqual(t *testing.T) {
	for _, c := range []struct {
		a, b []byte
		want bool
	}{
		{nil, nil, true},
		{nil, []byte{}, true},
		{[]byte{}, nil, true},
		{[]byte{}, []byte{}, true},
		{nil, []byte{0}, false},
		{[]byte{0}, nil, false},
		{[]byte{0}, []byte{0}, true},
		{[]byte{1}, []byte{1, 2}, false},
		{[]byte{1, 2}, []byte{1}, false},
		{[]byte{1, 2}, []byte{1, 2}, true},
		{[]byte{1, 2}, []byte{2, 1}, false},
		{[]byte{0, 0}, []byte{0}, false},
		{[]byte{1, 1}, []byte{2, 2}, false},
		{[]byte{0x80, 0}, []byte{0, 0x80}, false},
	} {
		if mac.Equal(c.a, c.b) != c.want {
			t.Errorf("%x %x", c.a, c.b)
		}
	}
}

func TestEqualSeesEachBit(t *testing.T) {
	for _, n := range []int{1, 16, 32, 65} {
		for i := range n * 8 {
			a, b := sample(n), sample(n)
			b[i/8] ^= 1 << (i % 8)
			if mac.Equal(a, b) || mac.Equal(b, a) {
				t.Errorf("bit %d of %d bytes", i, n)
			}
		}
		if !mac.Equal(sample(n), sample(n)) {
			t.Errorf("%d bytes", n)
		}
	}
}

func TestEqualLooksAtNoSpareRoom(t *testing.T) {
	a, _ := roomy(sample(20))
	if !mac.Equal(a, sample(20)) || mac.Equal(a, a[:21]) {
		t.Error("room")
	}
}

// P2.4
func TestFewerBytesOfExpandBeginMore(t *testing.T) {
	k := api.Key(sample(32))
	for _, info := range [][]byte{nil, []byte("info"), sample(100)} {
		most := expand(t, k, info, 8160)
		for _, n := range []int{0, 1, 31, 32, 33, 63, 64, 65, 1000, 8128, 8159} {
			if got := expand(t, k, info, n); !bytes.Equal(got, most[:n]) {
				t.Errorf("%d bytes: %x", n, got)
			}
		}
	}
}

// P3
func TestWhatIsHandedInStays(t *testing.T) {
	for _, n := range keySizes {
		a, roomA := roomy(sample(n))
		b, roomB := roomy(sample(n + 1))
		wasA, wasB := bytes.Clone(roomA), bytes.Clone(roomB)
		mac.Hmac(a, b)
		mac.Extract(a, b)
		expand(t, api.Key{1}, a, 100)
		mac.Equal(a, b)
		mac.Equal(a, a)
		if !bytes.Equal(roomA, wasA) || !bytes.Equal(roomB, wasB) {
			t.Errorf("key of %d: changed", n)
		}
	}
}

func TestOneListMayBeKeyAndBytes(t *testing.T) {
	b, room := roomy(sample(64))
	was := bytes.Clone(room)
	if got := mac.Hmac(b, b); !bytes.Equal(got[:], libraryHmac(sample(64), sample(64))) || !bytes.Equal(room, was) {
		t.Errorf("%x", got)
	}
}

func TestExpandIsTheCallers(t *testing.T) {
	for _, n := range []int{1, 31, 32, 33, 100, 8160} {
		info, room := roomy(sample(40))
		was := bytes.Clone(room)
		one, other := expand(t, api.Key{1}, info, n), expand(t, api.Key{1}, info, n)
		want := bytes.Clone(other)
		clear(one[:cap(one)])
		if !bytes.Equal(room, was) || !bytes.Equal(other, want) {
			t.Errorf("%d bytes: the answer lies in another list", n)
		}
		clear(room)
		if !bytes.Equal(other, want) {
			t.Errorf("%d bytes: the answer lies in what was handed in", n)
		}
	}
}

// P6
func TestSameBytesHaveTheSameAnswersEveryTime(t *testing.T) {
	first, bytesFirst := mac.Hmac(sample(70), sample(70)), expand(t, api.Key{1}, nil, 70)
	mac.Hmac(sample(3), sample(3))
	expand(t, api.Key{2}, sample(9), 9)
	if mac.Hmac(sample(70), sample(70)) != first || !bytes.Equal(expand(t, api.Key{1}, nil, 70), bytesFirst) {
		t.Error("something was kept")
	}
}
