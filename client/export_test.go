package client

import (
	"escritoire/api"
	"escritoire/keys"
)

// Ring is a fork of a client's ring, which its exported calls show to nobody.
func (c *Client) Ring() *keys.Ring { return c.ring.Fork() }

// LoseKeys leaves a client the keys that it has at first: by its calls nobody has a role and no key.
func (c *Client) LoseKeys(seed api.Key) { c.ring = keys.New(c.Own(), seed) }
