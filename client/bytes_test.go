package client_test

import (
	"slices"
	"testing"

	"escritoire/api"
	"escritoire/client"
)

// anyBytes are drawn, or made of good ones by a change, a cut, or bytes behind them.
func anyBytes(d *drawer, good []byte) []byte {
	b := slices.Clone(good)
	switch d.below(4) {
	case 0:
		b = make([]byte, d.below(400))
		for i := range b {
			b[i] = byte(d.below(256))
		}
	case 1:
		for range 1 + d.below(3) {
			b[d.below(len(b))] = byte(d.below(256))
		}
	case 2:
		b = b[:d.below(len(b)+1)]
	case 3:
		b = append(b, make([]byte, 1+d.below(50))...)
	}
	return b
}

// P1, P15.10, E7: of bytes of any kind nothing panics, and nothing but proofs changes where they are refused.
func TestBytesOfAnyKind(t *testing.T) {
	d := drawer(5)
	a, b := some(t)
	a.Receive(done(t)(b.Write(0, 'x')))
	wrote := done(t)(a.Write(0, 'a'))
	records := a.Disk().Records()
	good := laid([][]byte{epochOf(api.Dot{}, first0()), epochOf(dot(0, 4), drawOf(dot(0, 4)))}, a.Log())
	for range 3000 {
		c := b.Fork()
		was := stateOf(c)
		err := c.Receive(anyBytes(&d, wrote))
		if s := stateOf(c); err != api.OK {
			if s.proofs = was.proofs; !s.alike(was) {
				t.Fatalf("bytes that are refused by %d change something", err)
			}
		}
		err = c.Hear(byte(d.below(9)), anyBytes(&d, a.Attest()))
		if err != api.OK && err != api.ErrForm && err != api.ErrTag && err != api.ErrOwn && err != api.ErrRange {
			t.Fatalf("Hear: error %d", err)
		}
		if r, err := client.Restore(1, seed, 0, snapshotOf(0, 1, uint32(len(a.Log())), anyBytes(&d, good))); (r == nil) != (err != api.OK) {
			t.Fatalf("Restore: a client, and error %d", err)
		}
	}
	for range 600 {
		l := slices.Clone(records)
		i := d.below(len(l))
		l[i] = anyBytes(&d, l[i])
		c := client.Load(0, seed, recordsOn(t, l...))
		if n := len(c.Log()); n < i {
			t.Fatalf("of the records ahead of the %d-th %d are taken", i, n)
		}
		if len(c.Proofs()) != 0 {
			t.Fatal(c.Proofs())
		}
	}
}
