package chain

import (
	"slices"

	"escritoire/api"
	"escritoire/frame"
)

// link is a digest with its number, of an author.
type link struct {
	author byte
	api.Head
}

func linkOf(f api.Frame) link {
	return link{f.Author, api.Head{Count: f.Number, Sum: frame.Sum(f)}}
}

// has tells whether a frame with that digest was added as that number.
func (c *Chain) has(l link) bool {
	_, there := c.ahead[l]
	return there
}

// put takes an author's next one.
func (c *Chain) put(l link, prev api.Key) {
	c.ahead[l] = prev
	c.heads[l.author] = l.Head
}

// sum is the digest of an author's number that is not above the count.
func (c *Chain) sum(author byte, number uint32) api.Key {
	l := link{author, c.heads[author]}
	for l.Count > number {
		l.Sum = c.ahead[l]
		l.Count--
	}
	return l.Sum
}

// against is the proof of a frame that is a fork: of its own number, or, if it is the next one, of the number that it stands behind.
func (c *Chain) against(f api.Frame) api.Proof {
	last := c.heads[f.Author].Count
	if f.Number > last {
		return c.unlike(link{f.Author, api.Head{Count: last, Sum: f.Prev}})
	}
	return c.unlike(linkOf(f))
}

// unlike is the proof that another digest was told of a number than the one that is known.
func (c *Chain) unlike(l link) api.Proof {
	return api.Proof{Author: l.author, Number: l.Count, A: c.sum(l.author, l.Count), B: l.Sum}
}

// note keeps the proofs that are new, as long as there is room.
func (c *Chain) note(found ...api.Proof) {
noting:
	for _, p := range found {
		switch {
		case len(c.proofs) >= api.MaxProof:
			break noting
		case !slices.Contains(c.proofs, p):
			c.proofs = append(c.proofs, p)
		}
	}
}
