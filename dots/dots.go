// Package dots is the order in which dots are told.
package dots

import (
	"cmp"

	"escritoire/api"
)

// Compare is below 0, 0, or above it, as a stands ahead of b, is b, or stands behind it: by Author, of the same by Seq.
func Compare(a, b api.Dot) int {
	if a.Author != b.Author {
		return cmp.Compare(a.Author, b.Author)
	}
	return cmp.Compare(a.Seq, b.Seq)
}
