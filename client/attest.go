package client

import (
	"escritoire/api"
	"escritoire/mac"
	"escritoire/wire"
)

const (
	headsSize  = 288
	attestSize = headsSize + keySize
)

// Attest tells the heads, with a tag; Hear takes another one's.
func (c *Client) Attest() []byte {
	if c == nil {
		return nil
	}
	heads := wire.Heads(c.Heads())
	t := c.attestTag(c.Own(), heads)
	return append(heads, t[:]...)
}

func (c *Client) Hear(from byte, b []byte) api.Errno {
	if err := c.refuse(from); err != api.OK {
		return err
	}
	if len(b) != attestSize {
		return api.ErrForm
	}
	told := b[:headsSize]
	// How long a refusal takes must not tell how much of a forged tag was right.
	if t := c.attestTag(from, told); !mac.Equal(t[:], b[headsSize:]) {
		return api.ErrTag
	}
	// So many bytes have no error.
	heads, _ := wire.ReadHeads(told)
	if len(c.chain.Compare(heads)) > 0 {
		return api.ErrFork
	}
	return api.OK
}

func (k known) attestTag(who byte, heads []byte) api.Key {
	key := k.ring.MacKey(who)
	return mac.Hmac(key[:], heads)
}

// refuse is why nothing goes between oneself and another one, if it doesn't.
func (c *Client) refuse(other byte) api.Errno {
	switch {
	case c == nil:
		return api.ErrNil
	case other >= api.Authors:
		return api.ErrRange
	case other == c.Own():
		return api.ErrOwn
	}
	return api.OK
}
