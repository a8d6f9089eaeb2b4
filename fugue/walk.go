package fugue

import (
	"iter"
	"slices"

	"escritoire/api"
	"escritoire/dots"
)

// side is where nodes stand: under another one, or under the root, at its right or its left.
type side struct {
	parent api.Dot
	right  bool
}

// underRoot is the side under which all nodes are.
func underRoot() side { return side{right: true} }

func isRoot(d api.Dot) bool { return d == api.Dot{} }

// stand puts a node among those of a side, at its place in their order.
func (t *Tree) stand(id api.Dot, s side) {
	l := t.nodes[s]
	i, _ := slices.BinarySearchFunc(l, id, dots.Compare)
	t.nodes[s] = slices.Insert(l, i, id)
}

// at goes through the nodes of a side, each with all below it, in order.
func (t *Tree) at(s side) iter.Seq[api.Dot] {
	return func(yield func(api.Dot) bool) { t.walk(s, yield) }
}

// walk tells whether yield asked for more up to the end. It hands yield down, since a range in a range for each depth would tell a node once for each one above it.
func (t *Tree) walk(s side, yield func(api.Dot) bool) bool {
	for _, id := range t.nodes[s] {
		if !t.walk(side{id, false}, yield) || !yield(id) || !t.walk(side{id, true}, yield) {
			return false
		}
	}
	return true
}

// written goes through the nodes that have a character, in order.
func (t *Tree) written() iter.Seq[api.Dot] {
	return func(yield func(api.Dot) bool) {
		for id := range t.at(underRoot()) {
			if t.chars[id] != deleted && !yield(id) {
				return
			}
		}
	}
}

// first is the first one of all at a side: none stands between it and the node whose right side it is.
func (t *Tree) first(s side) (api.Dot, bool) {
	for id := range t.at(s) {
		return id, true
	}
	return api.Dot{}, false
}
