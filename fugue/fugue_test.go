package fugue_test

import (
	"bytes"
	"math"
	"slices"
	"strings"
	"testing"

	"escritoire/api"
	"escritoire/fugue"
)

func dot(author byte, seq uint32) api.Dot { return api.Dot{Author: author, Seq: seq} }

// drawer draws numbers, the same ones every time.
type drawer uint64

func (d *drawer) below(n int) int {
	*d = *d*6364136223846793005 + 1442695040888963407
	return int(uint64(*d)>>33) % n
}

// node is one, and where it stands.
type node struct {
	id, parent api.Dot
	right      bool
	c          byte
}

// plainTree is the chapter's words once more: a list of nodes, gone through for each question.
type plainTree []node

func (p plainTree) at(parent api.Dot, right bool) []node {
	var l []node
	for _, n := range p {
		if n.parent == parent && n.right == right {
			l = append(l, n)
		}
	}
	slices.SortFunc(l, func(a, b node) int {
		switch {
		case a.id.Author < b.id.Author || a.id.Author == b.id.Author && a.id.Seq < b.id.Seq:
			return -1
		case a.id == b.id:
			return 0
		}
		return 1
	})
	return l
}

func (p plainTree) walk(parent api.Dot, right bool) []node {
	var l []node
	for _, n := range p.at(parent, right) {
		l = append(l, p.walk(n.id, false)...)
		l = append(l, n)
		l = append(l, p.walk(n.id, true)...)
	}
	return l
}

func (p plainTree) order() []node { return p.walk(api.Dot{}, true) }

func (p plainTree) text() []node {
	return slices.DeleteFunc(p.order(), func(n node) bool { return n.c == 0 })
}

func (p plainTree) place(i int) (api.Dot, bool, api.Errno) {
	text, order := p.text(), p.order()
	if i < 0 || i > len(text) {
		return api.Dot{}, false, api.ErrRange
	}
	left, next := api.Dot{}, 0
	if i > 0 {
		left = text[i-1].id
		next = slices.IndexFunc(order, func(n node) bool { return n.id == left }) + 1
	}
	if len(p.at(left, true)) == 0 {
		return left, true, api.OK
	}
	return order[next].id, false, api.OK
}

func (p plainTree) delete(id api.Dot) {
	for i := range p {
		if p[i].id == id {
			p[i].c = 0
		}
	}
}

// drawn is a tree of n nodes, some of them deleted, with dots of all authors and of none.
func drawn(d *drawer, n int) plainTree {
	var p plainTree
	for len(p) < n {
		x := node{id: dot(byte(d.below(4)), uint32(d.below(3*n))), right: d.below(3) > 0, c: byte(1 + d.below(127))}
		if d.below(5) == 0 {
			x.id.Author += 252
		}
		if len(p) > 0 && d.below(8) > 0 {
			x.parent = p[max(d.below(len(p)), d.below(len(p)))].id
		} else {
			x.right = true
		}
		if x.id == (api.Dot{}) || slices.ContainsFunc(p, func(y node) bool { return y.id == x.id }) {
			continue
		}
		p = append(p, x)
	}
	return p
}

func insert(t *testing.T, x *fugue.Tree, l ...node) {
	t.Helper()
	for _, n := range l {
		if e := x.Insert(n.id, n.parent, n.right, n.c); e != api.OK {
			t.Fatalf("Insert(%v) = %d", n, e)
		}
	}
}

// fresh is a tree of nodes, of which those of character 0 were deleted.
func fresh(t *testing.T, p plainTree) *fugue.Tree {
	t.Helper()
	x := fugue.New()
	for _, n := range p {
		gone := n.c == 0
		if gone {
			n.c = '?'
		}
		insert(t, x, n)
		if gone && x.Delete(n.id) != api.OK {
			t.Fatal("Delete")
		}
	}
	return x
}

// state is all that a tree tells of itself.
type state struct {
	text  string
	order []api.Dot
}

func stateOf(x *fugue.Tree) state { return state{string(x.Text()), x.Order()} }

func (s state) same(o state) bool { return s.text == o.text && slices.Equal(s.order, o.order) }

// check asks a tree for all, and holds it against the words.
func check(t *testing.T, x *fugue.Tree, p plainTree) {
	t.Helper()
	var order []api.Dot
	for _, n := range p.order() {
		order = append(order, n.id)
		if !x.Has(n.id) {
			t.Fatalf("%v is not there", n.id)
		}
	}
	if got := x.Order(); !slices.Equal(got, order) {
		t.Fatalf("order %v instead of %v", got, order)
	}
	if x.Len() != len(p) {
		t.Fatalf("Len %d instead of %d", x.Len(), len(p))
	}
	var text []byte
	for i, n := range p.text() {
		text = append(text, n.c)
		if got, e := x.At(i); got != n.id || e != api.OK {
			t.Fatalf("At(%d) = %v, %d", i, got, e)
		}
	}
	if got := x.Text(); !bytes.Equal(got, text) {
		t.Fatalf("text %q instead of %q", got, text)
	}
	for _, i := range []int{-1, math.MinInt, len(text), len(text) + 1, math.MaxInt} {
		if got, e := x.At(i); got != (api.Dot{}) || e != api.ErrRange {
			t.Fatalf("At(%d) = %v, %d", i, got, e)
		}
	}
	places := []int{-1, -2, math.MinInt, math.MinInt + 1, len(text) + 1, len(text) + 2, math.MaxInt}
	for i := range len(text) + 1 {
		places = append(places, i)
	}
	for _, i := range places {
		parent, right, e := x.Place(i)
		if wantParent, wantRight, want := p.place(i); parent != wantParent || right != wantRight || e != want {
			t.Fatalf("Place(%d) = %v, %v, %d instead of %v, %v, %d", i, parent, right, e, wantParent, wantRight, want)
		}
	}
}

// P1
func TestNilTree(t *testing.T) {
	var x *fugue.Tree
	if e := x.Insert(dot(0, 1), api.Dot{}, true, 'a'); e != api.ErrNil {
		t.Error(e)
	}
	if e := x.Insert(api.Dot{}, api.Dot{}, false, 0); e != api.ErrNil {
		t.Error(e)
	}
	if x.Delete(dot(0, 1)) != api.ErrNil || x.Delete(api.Dot{}) != api.ErrNil {
		t.Error("Delete")
	}
	for _, i := range []int{math.MinInt, -1, 0, 1, math.MaxInt} {
		if d, e := x.At(i); d != (api.Dot{}) || e != api.ErrNil {
			t.Error(d, e)
		}
		if d, right, e := x.Place(i); d != (api.Dot{}) || right || e != api.ErrNil {
			t.Error(d, right, e)
		}
	}
	if len(x.Text()) != 0 || len(x.Order()) != 0 || x.Has(dot(0, 1)) || x.Has(api.Dot{}) || x.Len() != 0 || x.Fork() != nil {
		t.Error("a nil tree answers something")
	}
}

// P8.2
func TestNewTree(t *testing.T) {
	x := fugue.New()
	if x == nil {
		t.Fatal("nil")
	}
	check(t, x, nil)
	if x.Has(api.Dot{}) {
		t.Error("the root is no node")
	}
	if p, right, e := x.Place(0); p != (api.Dot{}) || !right || e != api.OK {
		t.Error(p, right, e)
	}
	insert(t, x, node{dot(0, 1), api.Dot{}, true, 'a'})
	check(t, fugue.New(), nil)
}

// P8.1, P8.2: the chapter's example
func TestExample(t *testing.T) {
	x := fugue.New()
	insert(t, x, node{dot(0, 1), api.Dot{}, true, 'a'}, node{dot(0, 2), dot(0, 1), true, 'b'})
	if string(x.Text()) != "ab" {
		t.Errorf("%q", x.Text())
	}
	insert(t, x, node{dot(0, 3), dot(0, 2), false, 'c'})
	if string(x.Text()) != "acb" || !slices.Equal(x.Order(), []api.Dot{dot(0, 1), dot(0, 3), dot(0, 2)}) {
		t.Errorf("%q", x.Text())
	}
}

// P8.2: those of one side stand by Author, of the same by Seq, whichever came first
func TestSiblings(t *testing.T) {
	ids := []api.Dot{dot(0, 2), dot(0, 300), dot(1, 0), dot(1, 1), dot(1, 256), dot(7, 1), dot(255, math.MaxUint32)}
	d := drawer(3)
	for range 20 {
		l := slices.Clone(ids)
		for i := range l {
			j := d.below(i + 1)
			l[i], l[j] = l[j], l[i]
		}
		x := fugue.New()
		insert(t, x, node{dot(3, 3), api.Dot{}, true, 'm'})
		for _, id := range l {
			insert(t, x, node{id, dot(3, 3), false, 'l'})
		}
		for _, id := range l {
			insert(t, x, node{dot(id.Author, id.Seq^1<<20), dot(3, 3), true, 'r'})
		}
		order := x.Order()
		if !slices.Equal(order[:len(ids)], ids) || order[len(ids)] != dot(3, 3) {
			t.Fatal(order)
		}
		right := order[len(ids)+1:]
		if len(right) != len(ids) || !slices.IsSortedFunc(right, func(a, b api.Dot) int {
			return int(a.Author)*1<<33 + int(a.Seq) - int(b.Author)*1<<33 - int(b.Seq)
		}) {
			t.Fatal(right)
		}
		if string(x.Text()) != "lllllllmrrrrrrr" {
			t.Fatalf("%q", x.Text())
		}
	}
}

// P8.1, P8.2
func TestDrawn(t *testing.T) {
	for seed := range 60 {
		d := drawer(seed)
		nodes := drawn(&d, 1+d.below(40))
		x := fugue.New()
		var p plainTree
		for _, n := range nodes {
			insert(t, x, n)
			p = append(p, n)
			if d.below(3) == 0 {
				gone := p[d.below(len(p))].id
				if e := x.Delete(gone); e != api.OK {
					t.Fatal(e)
				}
				p.delete(gone)
			}
			check(t, x, p)
		}
	}
}

// refused asks for an error of an Insert, and that nothing has changed.
func refused(t *testing.T, x *fugue.Tree, n node, want api.Errno) {
	t.Helper()
	ahead, there := stateOf(x), x.Has(n.id)
	if e := x.Insert(n.id, n.parent, n.right, n.c); e != want {
		t.Errorf("Insert(%v) = %d instead of %d", n, e, want)
	}
	if !stateOf(x).same(ahead) || x.Has(n.id) != there || x.Len() != len(ahead.order) {
		t.Errorf("Insert(%v), refused, has changed the tree", n)
	}
}

// insertErrors are those of a tree that has 1, 1, whether there is room in it or not.
func insertErrors(t *testing.T, x *fugue.Tree) {
	t.Helper()
	root, known, free, none := api.Dot{}, dot(1, 1), dot(2, 1), dot(9, 9)
	for _, c := range []byte{0, 128, 129, 255} {
		refused(t, x, node{free, root, true, c}, api.ErrForm)
		refused(t, x, node{known, none, true, c}, api.ErrForm)
	}
	refused(t, x, node{root, root, true, 'a'}, api.ErrForm)
	refused(t, x, node{root, known, true, 'a'}, api.ErrForm)
	refused(t, x, node{root, none, false, 'a'}, api.ErrForm)
	refused(t, x, node{free, root, false, 'a'}, api.ErrForm)
	refused(t, x, node{known, root, false, 'a'}, api.ErrForm)
	refused(t, x, node{known, root, true, 'a'}, api.ErrKnown)
	refused(t, x, node{known, known, false, 'a'}, api.ErrKnown)
	refused(t, x, node{known, none, false, 'a'}, api.ErrKnown)
	refused(t, x, node{free, none, true, 'a'}, api.ErrNone)
	refused(t, x, node{free, none, false, 'a'}, api.ErrNone)
	refused(t, x, node{free, free, true, 'a'}, api.ErrNone)
	refused(t, x, node{free, dot(1, 0), true, 'a'}, api.ErrNone)
	refused(t, x, node{free, dot(0, 1), true, 'a'}, api.ErrNone)
}

// P8.1, P2
func TestInsertErrors(t *testing.T) {
	x := fugue.New()
	insert(t, x, node{dot(1, 1), api.Dot{}, true, 'a'})
	insertErrors(t, x)
	// A deleted node is one, too.
	x.Delete(dot(1, 1))
	insertErrors(t, x)
	insert(t, x, node{dot(2, 1), dot(1, 1), true, 1}, node{dot(2, 2), dot(1, 1), false, 127})
	if string(x.Text()) != "\x7f\x01" {
		t.Errorf("%q", x.Text())
	}
}

// P8.1: dots of any kind but 0, 0 are nodes
func TestInsertAnyDot(t *testing.T) {
	x := fugue.New()
	parent := api.Dot{}
	for i, id := range []api.Dot{dot(0, 1), dot(1, 0), dot(7, api.MaxSeq), dot(8, api.MaxSeq+1), dot(255, 0), dot(0, math.MaxUint32), dot(255, math.MaxUint32)} {
		if x.Has(id) {
			t.Error(id)
		}
		insert(t, x, node{id, parent, true, byte('a' + i)})
		if !x.Has(id) {
			t.Error(id)
		}
		parent = id
	}
	if string(x.Text()) != "abcdefg" {
		t.Errorf("%q", x.Text())
	}
}

// P8.1: MaxText nodes, and one more
func TestMaxText(t *testing.T) {
	for _, right := range []bool{true, false} {
		x := fugue.New()
		p := plainTree{{dot(1, 1), api.Dot{}, true, 'a'}}
		for i := uint32(1); i < api.MaxText; i++ {
			p = append(p, node{dot(1, i+1), dot(1, i), right, byte('a' + i%26)})
		}
		insert(t, x, p...)
		want := make([]byte, len(p))
		for i, n := range p {
			if right {
				want[i] = n.c
			} else {
				want[len(p)-1-i] = n.c
			}
		}
		if !bytes.Equal(x.Text(), want) || x.Len() != api.MaxText {
			t.Fatalf("%q", x.Text())
		}
		more := node{dot(2, 1), dot(1, 1), right, 'x'}
		refused(t, x, more, api.ErrFull)
		insertErrors(t, x)
		refused(t, x, node{dot(2, 1), api.Dot{}, true, 'x'}, api.ErrFull)
		// Deleted ones make no room.
		for i := range uint32(api.MaxText) {
			if e := x.Delete(dot(1, i+1)); e != api.OK {
				t.Fatal(e)
			}
		}
		refused(t, x, more, api.ErrFull)
		if x.Len() != api.MaxText || len(x.Text()) != 0 || len(x.Order()) != api.MaxText {
			t.Error(x.Len())
		}
		refused(t, x.Fork(), more, api.ErrFull)
	}
}

// P8.1
func TestDelete(t *testing.T) {
	x := fugue.New()
	insert(t, x, node{dot(1, 1), api.Dot{}, true, 'a'}, node{dot(1, 2), dot(1, 1), true, 'b'})
	for _, id := range []api.Dot{{}, dot(1, 0), dot(1, 3), dot(0, 1), dot(2, 2), dot(255, 1)} {
		if e := x.Delete(id); e != api.ErrNone {
			t.Errorf("Delete(%v) = %d", id, e)
		}
	}
	if string(x.Text()) != "ab" || x.Len() != 2 {
		t.Errorf("%q", x.Text())
	}
	for range 2 {
		if e := x.Delete(dot(1, 1)); e != api.OK {
			t.Error(e)
		}
		if string(x.Text()) != "b" || x.Len() != 2 || !x.Has(dot(1, 1)) || !slices.Equal(x.Order(), []api.Dot{dot(1, 1), dot(1, 2)}) {
			t.Errorf("%q", x.Text())
		}
	}
	// Nodes come under a deleted one as under any other.
	insert(t, x, node{dot(2, 1), dot(1, 1), false, 'c'}, node{dot(2, 2), dot(1, 1), true, 'd'})
	if string(x.Text()) != "cbd" {
		t.Errorf("%q", x.Text())
	}
}

// P8.2: At and Place of -1, 0, the text's length and one more
func TestAtAndPlaceEdges(t *testing.T) {
	x := fresh(t, plainTree{{dot(1, 1), api.Dot{}, true, 'a'}, {dot(1, 2), dot(1, 1), true, 'b'}})
	for _, y := range []struct {
		i     int
		at    api.Dot
		atErr api.Errno
		place api.Dot
		right bool
		err   api.Errno
	}{
		{-1, api.Dot{}, api.ErrRange, api.Dot{}, false, api.ErrRange},
		{0, dot(1, 1), api.OK, dot(1, 1), false, api.OK},
		{1, dot(1, 2), api.OK, dot(1, 2), false, api.OK},
		{2, api.Dot{}, api.ErrRange, dot(1, 2), true, api.OK},
		{3, api.Dot{}, api.ErrRange, api.Dot{}, false, api.ErrRange},
	} {
		if d, e := x.At(y.i); d != y.at || e != y.atErr {
			t.Errorf("At(%d) = %v, %d", y.i, d, e)
		}
		if d, right, e := x.Place(y.i); d != y.place || right != y.right || e != y.err {
			t.Errorf("Place(%d) = %v, %v, %d", y.i, d, right, e)
		}
	}
}

// P8.2: Place where the character ahead has nodes at its right, deleted ones among them
func TestPlaceAmongDeleted(t *testing.T) {
	p := plainTree{
		{dot(1, 1), api.Dot{}, true, 'a'},
		{dot(1, 2), dot(1, 1), true, 0},
		{dot(1, 3), dot(1, 2), true, 'b'},
		{dot(1, 4), dot(1, 2), false, 0},
		{dot(1, 5), dot(1, 3), true, 0},
	}
	x := fresh(t, p)
	check(t, x, p)
	for _, y := range []struct {
		i     int
		place api.Dot
	}{{0, dot(1, 1)}, {1, dot(1, 4)}, {2, dot(1, 5)}} {
		if d, right, e := x.Place(y.i); d != y.place || right || e != api.OK {
			t.Errorf("Place(%d) = %v, %v, %d", y.i, d, right, e)
		}
	}
	// Nodes at its left alone don't count, nor those at its parent's right.
	q := plainTree{{dot(1, 1), api.Dot{}, true, 'a'}, {dot(1, 2), dot(1, 1), false, 'b'}, {dot(2, 1), api.Dot{}, true, 'c'}}
	x = fresh(t, q)
	for i, want := range []struct {
		place api.Dot
		right bool
	}{{dot(1, 2), false}, {dot(1, 2), true}, {dot(1, 1), true}, {dot(2, 1), true}} {
		if d, right, e := x.Place(i); d != want.place || right != want.right || e != api.OK {
			t.Errorf("Place(%d) = %v, %v, %d", i, d, right, e)
		}
	}
	// The root's next one is the first one of all, a deleted one too.
	x = fresh(t, plainTree{{dot(1, 1), api.Dot{}, true, 'a'}, {dot(0, 1), api.Dot{}, true, 0}, {dot(0, 2), dot(0, 1), false, 0}})
	if d, right, e := x.Place(0); d != dot(0, 2) || right || e != api.OK {
		t.Error(d, right, e)
	}
}

// P8.3
func TestPutAtPlace(t *testing.T) {
	for seed := range 40 {
		d := drawer(seed)
		p := drawn(&d, d.below(30))
		for range d.below(15) {
			if len(p) > 0 {
				p.delete(p[d.below(len(p))].id)
			}
		}
		x := fresh(t, p)
		text, order := x.Text(), x.Order()
		for i := range len(text) + 1 {
			// Its dot may stand ahead of all others, or behind them.
			for _, id := range []api.Dot{dot(0, 1<<30), dot(100, 1), dot(255, 1<<30)} {
				f := x.Fork()
				parent, right, e := f.Place(i)
				if e != api.OK {
					t.Fatal(e)
				}
				insert(t, f, node{id, parent, right, '#'})
				if got, want := f.Text(), slices.Insert(bytes.Clone(text), i, '#'); !bytes.Equal(got, want) {
					t.Fatalf("at %d: %q instead of %q", i, got, want)
				}
				if at, e := f.At(i); at != id || e != api.OK {
					t.Fatal(at, e)
				}
				if others := slices.DeleteFunc(f.Order(), func(y api.Dot) bool { return y == id }); !slices.Equal(others, order) {
					t.Fatal("the others are in another order")
				}
			}
		}
	}
}

// P8.4
func TestAnyOrderOfComing(t *testing.T) {
	for seed := range 30 {
		d := drawer(seed)
		p := drawn(&d, 40)
		want := stateOf(fresh(t, p))
		for range 10 {
			x := fugue.New()
			left := slices.Clone(p)
			for len(left) > 0 {
				i := d.below(len(left))
				if n := left[i]; n.parent == (api.Dot{}) || x.Has(n.parent) {
					insert(t, x, n)
					left = slices.Delete(left, i, i+1)
				}
			}
			if !stateOf(x).same(want) {
				t.Fatal(x.Order(), want.order)
			}
		}
	}
}

// P8.4: every order of a few nodes; those that come ahead of the one they stand under are refused
func TestEveryOrderOfComing(t *testing.T) {
	p := plainTree{{dot(2, 1), api.Dot{}, true, 'a'}, {dot(1, 1), api.Dot{}, true, 'b'}, {dot(1, 2), dot(2, 1), false, 'c'}, {dot(0, 1), dot(2, 1), false, 'd'}, {dot(0, 2), dot(1, 2), true, 'e'}, {dot(3, 1), dot(1, 1), true, 'f'}}
	want := stateOf(fresh(t, p))
	orders := 0
	var turn func(done plainTree, left []node)
	turn = func(done plainTree, left []node) {
		if len(left) == 0 {
			orders++
			if !stateOf(fresh(t, done)).same(want) {
				t.Fatal(done)
			}
		}
		for i, n := range left {
			x := fresh(t, done)
			if n.parent != (api.Dot{}) && !x.Has(n.parent) {
				refused(t, x, n, api.ErrNone)
				continue
			}
			turn(append(slices.Clone(done), n), slices.Delete(slices.Clone(left), i, i+1))
		}
	}
	turn(nil, p)
	if orders == 0 {
		t.Error("no order")
	}
}

// run writes a word at a place of a tree, each character behind the one ahead of it, and tells the nodes.
func run(t *testing.T, x *fugue.Tree, author byte, i int, word string) []node {
	t.Helper()
	var l []node
	for k, c := range []byte(word) {
		parent, right, e := x.Place(i + k)
		if e != api.OK {
			t.Fatal(e)
		}
		n := node{dot(author, uint32(1000+k)), parent, right, c}
		insert(t, x, n)
		l = append(l, n)
	}
	return l
}

// mixed is both lists in one, each in its order.
func mixed(d *drawer, a, b []node) []node {
	var l []node
	for len(a)+len(b) > 0 {
		if len(b) == 0 || len(a) > 0 && d.below(2) == 0 {
			l, a = append(l, a[0]), a[1:]
		} else {
			l, b = append(l, b[0]), b[1:]
		}
	}
	return l
}

// P8.5
func TestNotMingled(t *testing.T) {
	for seed := range 40 {
		d := drawer(seed)
		p := drawn(&d, d.below(20))
		for i := range p {
			p[i].c = '.'
			if d.below(3) == 0 {
				p[i].c = 0
			}
		}
		base := fresh(t, p)
		text := string(base.Text())
		for i := range len(text) + 1 {
			one, two := byte(d.below(8)), byte(8+d.below(8))
			a := run(t, base.Fork(), one, i, "ABCDE")
			b := run(t, base.Fork(), two, i, "vwxyz")
			first := ""
			for range 4 {
				x := base.Fork()
				insert(t, x, mixed(&d, a, b)...)
				got := string(x.Text())
				if got != text[:i]+"ABCDEvwxyz"+text[i:] && got != text[:i]+"vwxyzABCDE"+text[i:] {
					t.Fatalf("at %d of %q: %q", i, text, got)
				}
				if first != "" && got != first {
					t.Fatal(got, first)
				}
				first = got
			}
		}
	}
}

// P8.5: in an empty text the lesser author's stands ahead
func TestNotMingledAtTheRoot(t *testing.T) {
	x := fugue.New()
	a, b := run(t, x.Fork(), 5, 0, "five"), run(t, x.Fork(), 4, 0, "four")
	d := drawer(9)
	insert(t, x, mixed(&d, a, b)...)
	if string(x.Text()) != "fourfive" {
		t.Errorf("%q", x.Text())
	}
}

// P3
func TestTreeAnswersAreTheCallers(t *testing.T) {
	p := plainTree{{dot(1, 1), api.Dot{}, true, 'a'}, {dot(1, 2), api.Dot{}, true, 'b'}, {dot(1, 3), api.Dot{}, true, 'c'}}
	x := fresh(t, p)
	text, order := x.Text(), x.Order()
	text2, order2 := x.Text(), x.Order()
	for i := range text[:cap(text)] {
		text[:cap(text)][i] = '!'
	}
	for i := range order[:cap(order)] {
		order[:cap(order)][i] = dot(9, 9)
	}
	if string(text2) != "abc" || !slices.Equal(order2, []api.Dot{dot(1, 1), dot(1, 2), dot(1, 3)}) {
		t.Error("two answers share something")
	}
	check(t, x, p)
	_ = append(order2[:1], dot(8, 8))
	check(t, x, p)
}

// P4
func TestTreeFork(t *testing.T) {
	p := plainTree{{dot(1, 1), api.Dot{}, true, 'a'}, {dot(1, 4), dot(1, 1), true, 'b'}, {dot(1, 6), dot(1, 1), true, 'c'}, {dot(1, 8), dot(1, 1), true, 0}}
	x := fresh(t, p)
	f := x.Fork()
	check(t, f, p)
	if f == x {
		t.Fatal("the same one")
	}
	ofFork := append(slices.Clone(p), node{dot(1, 2), dot(1, 1), true, 'd'}, node{dot(1, 9), dot(1, 1), true, 'e'}, node{dot(3, 1), dot(1, 4), false, 'f'})
	insert(t, f, ofFork[len(p):]...)
	f.Delete(dot(1, 1))
	ofFork.delete(dot(1, 1))
	check(t, f, ofFork)
	check(t, x, p)
	ofTree := append(slices.Clone(p), node{dot(1, 3), dot(1, 1), true, 'g'}, node{dot(0, 9), dot(1, 1), true, 'h'}, node{dot(3, 1), dot(1, 6), true, 'i'})
	insert(t, x, ofTree[len(p):]...)
	x.Delete(dot(1, 6))
	ofTree.delete(dot(1, 6))
	check(t, x, ofTree)
	check(t, f, ofFork)
	g := f.Fork()
	check(t, g, ofFork)
	insert(t, fugue.New().Fork(), node{dot(1, 1), api.Dot{}, true, 'a'})
}

// P4: a tree and its forks, of which each goes its own way, many times over
func TestTreeForksDrawn(t *testing.T) {
	d := drawer(11)
	trees, plains := []*fugue.Tree{fugue.New()}, []plainTree{nil}
	for n := range uint32(60) {
		i := d.below(len(trees))
		if len(trees) < 6 && d.below(4) == 0 {
			trees, plains = append(trees, trees[i].Fork()), append(plains, slices.Clone(plains[i]))
		}
		x := node{dot(byte(d.below(3)), n+1), api.Dot{}, true, 'a' + byte(n%26)}
		if len(plains[i]) > 0 && d.below(2) == 0 {
			x.parent = plains[i][0].id
		}
		insert(t, trees[i], x)
		plains[i] = append(plains[i], x)
		for j := range trees {
			check(t, trees[j], plains[j])
		}
	}
}

// P6
func TestSameAnswers(t *testing.T) {
	d := drawer(5)
	p := drawn(&d, 60)
	want := stateOf(fresh(t, p))
	for range 20 {
		x := fresh(t, p)
		if !stateOf(x).same(want) || !stateOf(x.Fork()).same(want) || !stateOf(x).same(want) {
			t.Fatal("another answer")
		}
	}
	if strings.Contains(want.text, "\x00") {
		t.Error("a deleted one is in the text")
	}
}
