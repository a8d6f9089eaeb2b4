package client_test

import (
	"bytes"
	"slices"
	"testing"

	"escritoire/api"
	"escritoire/client"
	"escritoire/mac"
	"escritoire/wire"
)

// attested are heads with a member's tag.
func attested(who byte, heads [api.Authors]api.Head) []byte {
	k := client.New(0, seed).Ring().MacKey(who)
	b := wire.Heads(heads)
	tag := mac.Hmac(k[:], b)
	return slices.Concat(b, tag[:])
}

// hears asks for an error of Hear, and that nothing has changed but for the proofs, if there are new ones.
func hears(t *testing.T, what string, c *client.Client, from byte, b []byte, want api.Errno, noted ...api.Proof) {
	t.Helper()
	s := stateOf(c)
	given, all := roomed(b)
	copied := slices.Clone(all)
	asks(t, what, c.Hear(from, given), want)
	s.proofs = append(s.proofs, noted...)
	if !stateOf(c).alike(s) {
		t.Errorf("%s: proofs %v, or something else has changed", what, c.Proofs())
	}
	if !bytes.Equal(all, copied) {
		t.Errorf("%s: what was handed in has changed", what)
	}
}

// P15.4
func TestAttest(t *testing.T) {
	a, b := two(t, 7, api.Writer)
	receives(t, a, done(t)(b.Write(0, 'b')))
	done(t)(a.Write(0, 'a'))
	for _, c := range []*client.Client{a, b, client.New(3, seed)} {
		s := stateOf(c)
		if got, want := c.Attest(), attested(c.Own(), c.Heads()); !bytes.Equal(got, want) || len(got) != 320 {
			t.Errorf("Attest of %d: %x", c.Own(), got)
		}
		if !stateOf(c).alike(s) {
			t.Error("Attest has changed something")
		}
	}
	hears(t, "of one that has more", b, 0, a.Attest(), api.OK)
	hears(t, "of one that has less", a, 7, b.Attest(), api.OK)
	hears(t, "of one that has nothing", a, 3, client.New(3, seed).Attest(), api.OK)
}

// P15.4: which error comes first.
func TestHearErrors(t *testing.T) {
	a, b := two(t, 7, api.Writer)
	done(t)(a.Write(0, 'a'))
	good := a.Attest()
	wrong := slices.Clone(good)
	wrong[319]++
	for _, x := range []struct {
		what string
		from byte
		b    []byte
		want api.Errno
	}{
		{"from 8", 8, good, api.ErrRange},
		{"from 255, of nothing", 255, nil, api.ErrRange},
		{"from oneself", 7, b.Attest(), api.ErrOwn},
		{"from oneself, of nothing", 7, nil, api.ErrOwn},
		{"nil", 0, nil, api.ErrForm},
		{"empty", 0, []byte{}, api.ErrForm},
		{"288 bytes", 0, good[:288], api.ErrForm},
		{"319 bytes", 0, good[:319], api.ErrForm},
		{"321 bytes", 0, append(slices.Clone(good), 0), api.ErrForm},
		{"a wrong tag", 0, wrong, api.ErrTag},
		{"another one's", 1, good, api.ErrTag},
		{"of 320 bytes 0", 0, make([]byte, 320), api.ErrTag},
		{"320 bytes", 0, good, api.OK},
	} {
		hears(t, x.what, b, x.from, x.b, x.want)
	}
	for i := range good {
		bad := slices.Clone(good)
		bad[i] ^= 0x80
		hears(t, "a byte is another one", b, 0, bad, api.ErrTag)
	}
	hears(t, "from 7", a, 7, b.Attest(), api.OK)
	hears(t, "from oneself", a, 0, good, api.ErrOwn)
}

// P15.4, E4: heads of a lie, which have a right tag.
func TestHearOfALie(t *testing.T) {
	a, b := two(t, 1, api.Writer)
	receives(t, a, done(t)(b.Write(0, 'b')))
	one := a.Heads()
	done(t)(a.Write(0, 'a'))
	done(t)(a.Write(0, 'c'))
	now := a.Heads()
	hears(t, "of what was true", a, 1, attested(1, one), api.OK)
	hears(t, "of what is true", a, 1, attested(1, now), api.OK)
	later := now
	later[0] = api.Head{Count: 4, Sum: api.Key{1}}
	later[5] = api.Head{Count: 1, Sum: api.Key{2}}
	hears(t, "of what is not known", a, 1, attested(1, later), api.OK)
	none := now
	none[0] = api.Head{Count: 0, Sum: api.Key{9}}
	hears(t, "of a count of 0", a, 1, attested(1, none), api.OK)
	lie := now
	lie[0].Sum[0]++
	lie[1].Sum[31]++
	noted := []api.Proof{{Author: 0, Number: 3, A: now[0].Sum, B: lie[0].Sum}, {Author: 1, Number: 1, A: now[1].Sum, B: lie[1].Sum}}
	bad := attested(1, lie)
	bad[300]++
	hears(t, "of a lie with a wrong tag", a, 1, bad, api.ErrTag)
	hears(t, "of a lie that is another one's", a, 2, attested(1, lie), api.ErrTag)
	hears(t, "of a lie", a, 1, attested(1, lie), api.ErrFork, noted...)
	hears(t, "of the same lie", a, 1, attested(1, lie), api.ErrFork)
	old := one
	old[0].Sum[5]++
	hears(t, "of a lie about what was", a, 6, attested(6, old), api.ErrFork, api.Proof{Author: 0, Number: 1, A: one[0].Sum, B: old[0].Sum})
	hears(t, "of what is true, once more", a, 1, attested(1, now), api.OK)
}

// E4: two that heard unlike tales of one author find it out.
func TestTwoTalesAreFoundOut(t *testing.T) {
	h := handOf(t, 0)
	grantBoth := h.frame(api.Dot{}, []api.Wrap{h.wrap(1, api.Dot{}), h.wrap(2, api.Dot{})}, h.event(grant(1, api.Writer)))
	h.follow(grantBoth)
	one, two := h.frame(api.Dot{}, nil, h.event(first('x'))), h.frame(api.Dot{}, nil, h.event(first('y')))
	b, c := client.New(1, seed), client.New(2, seed)
	receives(t, b, grantBoth, one)
	receives(t, c, grantBoth, two)
	if b.Hear(2, c.Attest()) != api.ErrFork || c.Hear(1, b.Attest()) != api.ErrFork {
		t.Error("nobody found it out")
	}
	x, y := b.Heads()[0].Sum, c.Heads()[0].Sum
	if p := b.Proofs(); !slices.Equal(p, []api.Proof{{Author: 0, Number: 2, A: x, B: y}}) {
		t.Error(p)
	}
	if p := c.Proofs(); !slices.Equal(p, []api.Proof{{Author: 0, Number: 2, A: y, B: x}}) {
		t.Error(p)
	}
}
