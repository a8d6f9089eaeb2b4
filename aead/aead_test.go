package aead_test

import (
	"bytes"
	"encoding/binary"
	"encoding/hex"
	"strings"
	"testing"

	"escritoire/aead"
	"escritoire/api"
	"escritoire/chacha"
	"escritoire/poly"
)

// sizes are those about no bytes, whole blocks of the tag, and whole blocks of the stream.
var sizes = []int{0, 1, 2, 14, 15, 16, 17, 18, 31, 32, 33, 47, 48, 49, 63, 64, 65, 127, 128, 129, 255, 256, 257}

func sample(n int) []byte {
	b := make([]byte, n)
	for i := range b {
		b[i] = byte(i*11 + i>>8 + 5)
	}
	return b
}

// roomy is a list with spare room that isn't empty, and all of the room.
func roomy(b []byte) (list, room []byte) {
	room = append(bytes.Clone(b), bytes.Repeat([]byte{0xa5}, 200)...)
	return room[:len(b)], room
}

func unhex(t *testing.T, s string) []byte {
	t.Helper()
	b, err := hex.DecodeString(strings.ReplaceAll(s, " ", ""))
	if err != nil {
		t.Fatal(err)
	}
	return b
}

func row(n int) api.Key {
	var k api.Key
	for i := range k {
		k[i] = byte(n + i)
	}
	return k
}

// plainFramed is the chapter's words once more.
func plainFramed(open, sealed []byte) []byte {
	var b []byte
	for _, part := range [][]byte{open, sealed} {
		b = append(b, part...)
		for len(b)%16 != 0 {
			b = append(b, 0)
		}
	}
	b = binary.LittleEndian.AppendUint64(b, uint64(len(open)))
	return binary.LittleEndian.AppendUint64(b, uint64(len(sealed)))
}

// plainSeal is the chapter's words once more.
func plainSeal(k api.Key, n api.Nonce, open, b []byte) []byte {
	first := chacha.Block(k, n, 0)
	sealed := chacha.Xor(k, n, 1, b)
	tag := poly.Sum(api.Key(first[:32]), plainFramed(open, sealed))
	return append(sealed, tag[:]...)
}

// opens asks that sealed bytes are opened, and what they are.
func opens(t *testing.T, k api.Key, n api.Nonce, open, sealed, want []byte) {
	t.Helper()
	if b, e := aead.Open(k, n, open, sealed); e != api.OK || !bytes.Equal(b, want) {
		t.Errorf("open of %d, sealed of %d: %x, error %d, want %x", len(open), len(sealed), b, e, want)
	}
}

// refuses asks that sealed bytes have an error, and nothing beside it.
func refuses(t *testing.T, k api.Key, n api.Nonce, open, sealed []byte, want api.Errno) {
	t.Helper()
	if b, e := aead.Open(k, n, open, sealed); e != want || len(b) != 0 {
		t.Errorf("open of %d, sealed of %d: %x, error %d, want %d", len(open), len(sealed), b, e, want)
	}
}

// P5.1, RFC 8439, 2.6.2, A.4 and A.5
func TestOneTimeOfTheRFC(t *testing.T) {
	for i, c := range []struct{ k, n, want string }{
		{"808182838485868788898a8b8c8d8e8f909192939495969798999a9b9c9d9e9f", "000000000001020304050607", "8ad5a08b905f81cc815040274ab29471a833b637e3fd0da508dbb8e2fdd1a646"},
		{strings.Repeat("00", 32), strings.Repeat("00", 12), "76b8e0ada0f13d90405d6ae55386bd28bdd219b8a08ded1aa836efcc8b770dc7"},
		{"1c9240a5eb55d38af333888604f6b5f0473917c1402b80099dca5cbc207075c0", "000000000102030405060708", "bdf04aa95ce4de8995b14bb6a18fecaf26478f50c054f563dbc0a21e261572aa"},
	} {
		if got := aead.OneTime(api.Key(unhex(t, c.k)), api.Nonce(unhex(t, c.n))); hex.EncodeToString(got[:]) != c.want {
			t.Errorf("%d: %x, want %s", i, got, c.want)
		}
	}
}

func TestOneTimeBeginsTheBlockOfZero(t *testing.T) {
	for i := range 50 {
		k, n := row(i), api.Nonce{byte(i), 11: byte(2 * i)}
		block := chacha.Block(k, n, 0)
		if got := aead.OneTime(k, n); !bytes.Equal(got[:], block[:32]) {
			t.Errorf("%d: %x, want %x", i, got, block[:32])
		}
	}
}

// RFC 8439, 2.8.2
func TestFramedOfTheRFC(t *testing.T) {
	open, sealed := unhex(t, "50515253c0c1c2c3c4c5c6c7"), sample(114)
	want := append(bytes.Clone(open), 0, 0, 0, 0)
	want = append(want, sealed...)
	want = append(want, make([]byte, 14)...)
	want = append(want, unhex(t, "0c00000000000000 7200000000000000")...)
	if got := aead.Framed(open, sealed); !bytes.Equal(got, want) {
		t.Errorf("%x, want %x", got, want)
	}
}

func TestFramedIsTheChapters(t *testing.T) {
	for _, n := range append([]int{65535, 65536, 1 << 20}, sizes...) {
		for _, m := range sizes {
			if got, want := aead.Framed(sample(n), sample(m)), plainFramed(sample(n), sample(m)); !bytes.Equal(got, want) {
				t.Errorf("open of %d, sealed of %d", n, m)
			}
			if got, want := aead.Framed(sample(m), sample(n)), plainFramed(sample(m), sample(n)); !bytes.Equal(got, want) {
				t.Errorf("open of %d, sealed of %d", m, n)
			}
		}
	}
}

func TestFramedOfNothing(t *testing.T) {
	want := make([]byte, 16)
	for _, b := range [][]byte{nil, {}} {
		if got := aead.Framed(b, b); !bytes.Equal(got, want) {
			t.Errorf("%x", got)
		}
	}
}

// P5.2, RFC 8439, 2.8.2
func TestSealOfTheRFC(t *testing.T) {
	k, n := row(0x80), api.Nonce(unhex(t, "070000004041424344454647"))
	open := unhex(t, "50515253c0c1c2c3c4c5c6c7")
	text := "Ladies and Gentlemen of the class of '99: If I could offer you only one tip for the future, sunscreen would be it."
	want := unhex(t, "d31a8d34648e60db7b86afbc53ef7ec2 a4aded51296e08fea9e2b5a736ee62d6 3dbea45e8ca9671282fafb69da92728b 1a71de0a9e060b2905d6a5b67ecd3b36"+
		"92ddbd7f2d778b8c9803aee328091b58 fab324e4fad675945585808b4831d7bc 3ff4def08e4b7a9de576d26586cec64b 6116"+
		"1ae10b594f09e26a7e902ecbd0600691")
	if got := aead.Seal(k, n, open, []byte(text)); !bytes.Equal(got, want) {
		t.Errorf("%x, want %x", got, want)
	}
	opens(t, k, n, open, want, []byte(text))
}

// RFC 8439, A.5
func TestOpenOfTheRFC(t *testing.T) {
	k := api.Key(unhex(t, "1c9240a5eb55d38af333888604f6b5f0473917c1402b80099dca5cbc207075c0"))
	n := api.Nonce(unhex(t, "000000000102030405060708"))
	open := unhex(t, "f33388860000000000004e91")
	sealed := unhex(t, "64a0861575861af460f062c79be643bd 5e805cfd345cf389f108670ac76c8cb2 4c6cfc18755d43eea09ee94e382d26b0 bdb7b73c321b0100d4f03b7f355894cf"+
		"332f830e710b97ce98c8a84abd0b9481 14ad176e008d33bd60f982b1ff37c855 9797a06ef4f0ef61c186324e2b350638 3606907b6a7c02b0f9f6157b53c867e4"+
		"b9166c767b804d46a59b5216cde7a4e9 9040c5a40433225ee282a1b0a06c523e af4534d7f83fa1155b0047718cbc546a 0d072b04b3564eea1b422273f548271a"+
		"0bb2316053fa76991955ebd63159434e cebb4e466dae5a1073a6727627097a10 49e617d91d361094fa68f0ff77987130 305beaba2eda04df997b714d6c6f2c29"+
		"a6ad5cb4022b02709b eead9d67890cbb22392336fea1851f38")
	text := "Internet-Drafts are draft documents valid for a maximum of six months and may be updated, replaced, or obsoleted by other documents at any time. " +
		"It is inappropriate to use Internet-Drafts as reference material or to cite them other than as /\u201cwork in progress./\u201d"
	opens(t, k, n, open, sealed, []byte(text))
	if got := aead.Seal(k, n, open, []byte(text)); !bytes.Equal(got, sealed) {
		t.Errorf("%x", got)
	}
}

func TestSealIsTheChapters(t *testing.T) {
	k, n := row(9), api.Nonce{4, 5, 6, 11: 7}
	for _, m := range sizes {
		for _, size := range sizes {
			open, b := sample(m), sample(size)
			if got, want := aead.Seal(k, n, open, b), plainSeal(k, n, open, b); !bytes.Equal(got, want) {
				t.Errorf("open of %d, %d bytes: %x, want %x", m, size, got, want)
			}
		}
	}
}

// the chapter's example
func TestSealOfNoBytesIsATag(t *testing.T) {
	k, n := row(1), api.Nonce{1}
	for _, open := range [][]byte{nil, {}, sample(15), sample(16), sample(17)} {
		for _, b := range [][]byte{nil, {}} {
			s := aead.Seal(k, n, open, b)
			tag := poly.Sum(aead.OneTime(k, n), plainFramed(open, nil))
			if !bytes.Equal(s, tag[:]) {
				t.Errorf("open of %d: %x, want %x", len(open), s, tag)
			}
			opens(t, k, n, open, s, nil)
		}
	}
}

func TestOpenOfTooFewBytes(t *testing.T) {
	for _, open := range [][]byte{nil, sample(20)} {
		refuses(t, row(0), api.Nonce{}, open, nil, api.ErrForm)
		for n := range 16 {
			refuses(t, row(0), api.Nonce{}, open, sample(n), api.ErrForm)
			// 16 bytes of room aren't 16 bytes.
			refuses(t, row(0), api.Nonce{}, open, aead.Seal(row(0), api.Nonce{}, open, nil)[:n], api.ErrForm)
		}
	}
}

func TestOpenOfOtherBytes(t *testing.T) {
	for _, size := range []int{16, 17, 31, 32, 33, 100} {
		refuses(t, row(0), api.Nonce{}, nil, sample(size), api.ErrTag)
		refuses(t, row(0), api.Nonce{}, nil, make([]byte, size), api.ErrTag)
	}
}

func TestEachBitOfWhatIsSealedCounts(t *testing.T) {
	k, n := row(2), api.Nonce{2}
	for _, size := range []int{0, 1, 15, 16, 17, 33} {
		open := sample(17)
		s := aead.Seal(k, n, open, sample(size))
		for i := range len(s) * 8 {
			s[i/8] ^= 1 << (i % 8)
			refuses(t, k, n, open, s, api.ErrTag)
			s[i/8] ^= 1 << (i % 8)
		}
		opens(t, k, n, open, s, sample(size))
	}
}

func TestEachBitOfWhatIsOpenCounts(t *testing.T) {
	k, n := row(2), api.Nonce{2}
	for _, size := range []int{1, 15, 16, 17, 33} {
		open := sample(size)
		s := aead.Seal(k, n, open, sample(20))
		for i := range size * 8 {
			open[i/8] ^= 1 << (i % 8)
			refuses(t, k, n, open, s, api.ErrTag)
			open[i/8] ^= 1 << (i % 8)
		}
		opens(t, k, n, open, s, sample(20))
	}
}

func TestEachBitOfKeyAndNonceCounts(t *testing.T) {
	k, n := row(2), api.Nonce{2}
	s := aead.Seal(k, n, sample(3), sample(20))
	for i := range len(k) * 8 {
		other := k
		other[i/8] ^= 1 << (i % 8)
		refuses(t, other, n, sample(3), s, api.ErrTag)
	}
	for i := range len(n) * 8 {
		other := n
		other[i/8] ^= 1 << (i % 8)
		refuses(t, k, other, sample(3), s, api.ErrTag)
	}
}

// Both lists are filled up with zeros; only their lengths tell zeros of theirs from these.
func TestLengthsCount(t *testing.T) {
	k, n := row(3), api.Nonce{3}
	open := sample(13)
	s := aead.Seal(k, n, open, sample(29))
	refuses(t, k, n, append(bytes.Clone(open), 0), s, api.ErrTag)
	refuses(t, k, n, open[:12], s, api.ErrTag)
	tag, hidden := s[29:], s[:29]
	longer := append(append(bytes.Clone(hidden), 0), tag...)
	refuses(t, k, n, open, longer, api.ErrTag)
	refuses(t, k, n, open, append(bytes.Clone(hidden[:28]), tag...), api.ErrTag)
	refuses(t, k, n, open, s[:len(s)-1], api.ErrTag)
	refuses(t, k, n, open, append(bytes.Clone(s), 0), api.ErrTag)
	refuses(t, k, n, open, append([]byte{0}, s...), api.ErrTag)
}

func TestOpenAndSealedAreNotOneList(t *testing.T) {
	k, n := row(3), api.Nonce{3}
	s := aead.Seal(k, n, sample(16), sample(16))
	refuses(t, k, n, append(sample(16), s[:16]...), s[16:], api.ErrTag)
	refuses(t, k, n, nil, append(sample(16), s...), api.ErrTag)
	refuses(t, k, n, nil, s, api.ErrTag)
}

// P5.3 and P5.4
func TestOpenOfSealIsWhatItWas(t *testing.T) {
	for _, m := range sizes {
		for _, size := range append([]int{4096, 4099}, sizes...) {
			k, n, open, b := row(size), api.Nonce{byte(m), 1}, sample(m), sample(size)
			s := aead.Seal(k, n, open, b)
			if len(s) != size+16 {
				t.Errorf("%d bytes are sealed as %d", size, len(s))
			}
			opens(t, k, n, open, s, b)
		}
	}
}

func TestNilIsNoBytes(t *testing.T) {
	k, n := row(3), api.Nonce{3}
	if !bytes.Equal(aead.Seal(k, n, nil, sample(5)), aead.Seal(k, n, []byte{}, sample(5))) {
		t.Error("open")
	}
	opens(t, k, n, []byte{}, aead.Seal(k, n, nil, nil), nil)
	opens(t, k, n, nil, aead.Seal(k, n, []byte{}, []byte{}), nil)
}

// P3
func TestWhatIsHandedInStays(t *testing.T) {
	k, n := row(4), api.Nonce{4}
	for _, m := range sizes {
		for _, size := range sizes {
			open, openRoom := roomy(sample(m))
			b, room := roomy(sample(size))
			s, sealedRoom := roomy(plainSeal(k, n, open, b))
			wasOpen, was, wasSealed := bytes.Clone(openRoom), bytes.Clone(room), bytes.Clone(sealedRoom)
			aead.Seal(k, n, open, b)
			aead.Framed(open, b)
			opens(t, k, n, open, s, b)
			refuses(t, row(5), n, open, s, api.ErrTag)
			refuses(t, k, n, open, s[:min(size, 15)], api.ErrForm)
			if !bytes.Equal(openRoom, wasOpen) || !bytes.Equal(room, was) || !bytes.Equal(sealedRoom, wasSealed) {
				t.Errorf("open of %d, %d bytes: changed", m, size)
			}
		}
	}
}

func TestOneListMayBeOpenAndSealed(t *testing.T) {
	k, n := row(4), api.Nonce{4}
	b, room := roomy(sample(40))
	was := bytes.Clone(room)
	s := aead.Seal(k, n, b, b)
	opens(t, k, n, b, s, b)
	if !bytes.Equal(s, plainSeal(k, n, sample(40), sample(40))) || !bytes.Equal(aead.Framed(b, b), plainFramed(sample(40), sample(40))) || !bytes.Equal(room, was) {
		t.Errorf("%x", s)
	}
}

func TestAnswersAreTheCallers(t *testing.T) {
	k, n := row(4), api.Nonce{4}
	for _, size := range sizes {
		s := aead.Seal(k, n, sample(size), sample(size))
		for name, call := range map[string]func(open, b []byte) []byte{
			"Seal":   func(open, b []byte) []byte { return aead.Seal(k, n, open, b) },
			"Framed": aead.Framed,
			"Open": func(open, _ []byte) []byte {
				b, _ := aead.Open(k, n, open, s)
				return b
			},
		} {
			open, openRoom := roomy(sample(size))
			b, room := roomy(sample(size))
			wasOpen, was, wasSealed := bytes.Clone(openRoom), bytes.Clone(room), bytes.Clone(s)
			one, other := call(open, b), call(open, b)
			want := bytes.Clone(other)
			clear(one[:cap(one)])
			if !bytes.Equal(openRoom, wasOpen) || !bytes.Equal(room, was) || !bytes.Equal(s, wasSealed) || !bytes.Equal(other, want) {
				t.Errorf("%s, %d bytes: the answer lies in another list", name, size)
			}
			clear(openRoom)
			clear(room)
			clear(s)
			if !bytes.Equal(other, want) {
				t.Errorf("%s, %d bytes: the answer lies in what was handed in", name, size)
			}
			copy(s, wasSealed)
		}
	}
}

// P6
func TestSameThingsHaveTheSameAnswersEveryTime(t *testing.T) {
	k, n := row(4), api.Nonce{4}
	first := aead.Seal(k, n, sample(9), sample(70))
	aead.Seal(row(5), n, sample(8), sample(7))
	refuses(t, row(5), n, sample(9), first, api.ErrTag)
	if !bytes.Equal(aead.Seal(k, n, sample(9), sample(70)), first) {
		t.Error("something was kept")
	}
	opens(t, k, n, sample(9), first, sample(70))
}
