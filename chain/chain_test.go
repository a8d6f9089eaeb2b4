package chain_test

import (
	"crypto/sha256"
	"encoding/binary"
	"math"
	"slices"
	"testing"

	"escritoire/api"
	"escritoire/chain"
	"escritoire/frame"
	"escritoire/wire"
)

// told is a frame with something in each of its parts; the mark tells unlike ones of one author and number apart.
func told(author byte, number uint32, prev api.Key, mark byte) api.Frame {
	return api.Frame{
		Author: author, Number: number, Epoch: api.Dot{Author: 1, Seq: 7}, Prev: prev,
		Wraps: []api.Wrap{{To: 2, Epoch: api.Dot{Author: 3, Seq: 9}, Data: [48]byte{5, 47: 6}}},
		Body:  []byte{10, 20, mark, 40}, Mac: api.Key{7, 31: 8},
	}
}

// unwritable is a frame that has no bytes, so that its digest is all 0.
func unwritable(author byte, number uint32, prev api.Key, mark byte) api.Frame {
	f := told(author, number, prev, mark)
	f.Body = make([]byte, api.MaxBody+17)
	f.Body[0] = mark
	return f
}

// tale is so many frames of an author, one behind the other.
func tale(author byte, n int) []api.Frame {
	var l []api.Frame
	var prev api.Key
	for i := range n {
		f := told(author, uint32(i+1), prev, 1)
		l, prev = append(l, f), frame.Sum(f)
	}
	return l
}

// filled is a chain with so many frames of each author.
func filled(t *testing.T, counts ...int) *chain.Chain {
	t.Helper()
	c := chain.New()
	for author, n := range counts {
		for _, f := range tale(byte(author), n) {
			adds(t, c, f, api.OK)
		}
	}
	return c
}

// sumOf is the digest of an author's number, in a tale.
func sumOf(author byte, number uint32) api.Key {
	if number == 0 {
		return api.Key{}
	}
	return frame.Sum(tale(author, int(number))[number-1])
}

// headsOf are those of tales.
func headsOf(counts ...int) [api.Authors]api.Head {
	var l [api.Authors]api.Head
	for author, n := range counts {
		l[author] = api.Head{Count: uint32(n), Sum: sumOf(byte(author), uint32(n))}
	}
	return l
}

func adds(t *testing.T, c *chain.Chain, f api.Frame, want api.Errno) {
	t.Helper()
	if err := c.Add(f); err != want {
		t.Errorf("Add of %d, %d: %d instead of %d", f.Author, f.Number, err, want)
	}
}

// looks asks for an error of Look, that it changes nothing, and for the same one of Add to a Fork.
func looks(t *testing.T, c *chain.Chain, f api.Frame, want api.Errno) {
	t.Helper()
	heads, proofs := c.Heads(), c.Proofs()
	if err := c.Look(f); err != want {
		t.Errorf("Look of %d, %d: %d instead of %d", f.Author, f.Number, err, want)
	}
	holds(t, c, heads, proofs...)
	adds(t, c.Fork(), f, want)
}

// refuses asks for an error of Look and Add, behind which nothing has changed.
func refuses(t *testing.T, c *chain.Chain, f api.Frame, want api.Errno) {
	t.Helper()
	heads, proofs := c.Heads(), c.Proofs()
	looks(t, c, f, want)
	adds(t, c, f, want)
	holds(t, c, heads, proofs...)
}

// forks asks that Add says ErrFork, and for the proof that is noted behind the others.
func forks(t *testing.T, c *chain.Chain, f api.Frame, want api.Proof) {
	t.Helper()
	heads, proofs := c.Heads(), c.Proofs()
	looks(t, c, f, api.ErrFork)
	adds(t, c, f, api.ErrFork)
	holds(t, c, heads, append(proofs, want)...)
}

func holds(t *testing.T, c *chain.Chain, heads [api.Authors]api.Head, proofs ...api.Proof) {
	t.Helper()
	if got := c.Heads(); got != heads {
		t.Errorf("heads %v instead of %v", got, heads)
	}
	if got := c.Proofs(); !slices.Equal(got, proofs) {
		t.Errorf("proofs %v instead of %v", got, proofs)
	}
}

func compares(t *testing.T, c *chain.Chain, l [api.Authors]api.Head, want ...api.Proof) {
	t.Helper()
	heads := c.Heads()
	if got := c.Compare(l); !slices.Equal(got, want) {
		t.Errorf("Compare answers %v instead of %v", got, want)
	}
	if c.Heads() != heads {
		t.Error("Compare has changed the heads")
	}
}

// other is another digest.
func other(k api.Key) api.Key {
	k[31]++
	return k
}

// P1
func TestNilChain(t *testing.T) {
	var c *chain.Chain
	for _, f := range []api.Frame{{}, told(0, 1, api.Key{}, 1), told(8, 1, api.Key{}, 1), told(1, 0, api.Key{9}, 1), told(255, math.MaxUint32, api.Key{9}, 1)} {
		if c.Look(f) != api.ErrNil || c.Add(f) != api.ErrNil {
			t.Error(c.Look(f), c.Add(f))
		}
	}
	if c.Heads() != ([api.Authors]api.Head{}) || len(c.Proofs()) != 0 || c.Fork() != nil {
		t.Error("a nil chain answers something")
	}
	if l := c.Compare(headsOf(1, 2, 3)); len(l) != 0 {
		t.Error(l)
	}
}

// P13.2
func TestNew(t *testing.T) {
	c := chain.New()
	if c == nil {
		t.Fatal("nil")
	}
	holds(t, c, headsOf())
	adds(t, c, told(0, 1, api.Key{}, 1), api.OK)
	holds(t, chain.New(), headsOf())
}

// P13.1: the chapter's example
func TestExample(t *testing.T) {
	for author := range byte(api.Authors) {
		c := chain.New()
		a, b := told(author, 1, api.Key{}, 1), told(author, 1, api.Key{}, 2)
		adds(t, c, a, api.OK)
		forks(t, c, b, api.Proof{Author: author, Number: 1, A: frame.Sum(a), B: frame.Sum(b)})
	}
}

// P13.1: which authors and numbers there are; it is asked ahead of all else
func TestRange(t *testing.T) {
	var counts [api.Authors]int
	for i := range counts {
		counts[i] = 3
	}
	for _, c := range []*chain.Chain{chain.New(), filled(t, counts[:]...)} {
		for author := range 256 {
			for _, number := range []uint32{0, 1, 2, 255, 256, 257, 1 << 20, math.MaxUint32} {
				f := told(byte(author), number, api.Key{9}, 5)
				if author > 7 || number == 0 || number > 256 {
					refuses(t, c, f, api.ErrRange)
				} else if c.Look(f) == api.ErrRange {
					t.Errorf("%d, %d: ErrRange", author, number)
				}
			}
		}
	}
	for _, author := range []byte{7, 8} {
		want := []api.Errno{7: api.OK, 8: api.ErrRange}[author]
		adds(t, chain.New(), told(author, 1, api.Key{}, 1), want)
	}
}

// P13.1, P13.2: a whole tale, up to MaxBatch
func TestWholeTale(t *testing.T) {
	c := chain.New()
	l := tale(7, api.MaxBatch)
	for i, f := range l {
		looks(t, c, f, api.OK)
		adds(t, c, f, api.OK)
		want := [api.Authors]api.Head{7: {Count: uint32(i + 1), Sum: frame.Sum(f)}}
		holds(t, c, want)
		refuses(t, c, f, api.ErrKnown)
	}
	for _, f := range l {
		refuses(t, c, f, api.ErrKnown)
	}
	full := told(7, api.MaxBatch+1, frame.Sum(l[api.MaxBatch-1]), 1)
	refuses(t, c, full, api.ErrRange)
	full.Prev = api.Key{9}
	refuses(t, c, full, api.ErrRange)
	for i, f := range l {
		p := told(7, f.Number, f.Prev, 2)
		want := api.Proof{Author: 7, Number: f.Number, A: frame.Sum(f), B: frame.Sum(p)}
		if i < api.MaxProof {
			forks(t, c, p, want)
		} else {
			refuses(t, c, p, api.ErrFork)
		}
	}
}

// P13.1: another digest of each number up to the count
func TestForkOfEachNumber(t *testing.T) {
	c := filled(t, 0, 0, 5)
	for number := uint32(1); number <= 5; number++ {
		for _, prev := range []api.Key{sumOf(2, number-1), {9}} {
			f := told(2, number, prev, 2)
			forks(t, c, f, api.Proof{Author: 2, Number: number, A: sumOf(2, number), B: frame.Sum(f)})
		}
	}
}

// P13.1, P13.3: a frame is another one, whatever part of it is
func TestEachPartCounts(t *testing.T) {
	right := tale(4, 3)[1]
	for i, change := range []func(f *api.Frame){
		func(f *api.Frame) { f.Epoch.Author++ },
		func(f *api.Frame) { f.Epoch.Seq++ },
		func(f *api.Frame) { f.Prev[0]++ },
		func(f *api.Frame) { f.Prev[31]++ },
		func(f *api.Frame) { f.Wraps = nil },
		func(f *api.Frame) { f.Wraps = append(slices.Clone(f.Wraps), api.Wrap{}) },
		func(f *api.Frame) { f.Wraps[0].Data[47]++ },
		func(f *api.Frame) { f.Body = nil },
		func(f *api.Frame) { f.Body = append(slices.Clone(f.Body), 0) },
		func(f *api.Frame) { f.Body[3]++ },
		func(f *api.Frame) { f.Mac[0]++ },
		func(f *api.Frame) { f.Mac[31]++ },
	} {
		c := filled(t, 0, 0, 0, 0, 3)
		refuses(t, c, right, api.ErrKnown)
		f := tale(4, 3)[1]
		change(&f)
		if wire.SameFrame(f, right) {
			t.Fatal(i)
		}
		forks(t, c, f, api.Proof{Author: 4, Number: 2, A: frame.Sum(right), B: frame.Sum(f)})
		refuses(t, c, right, api.ErrKnown)
	}
}

// P13.1: the first one stands behind nothing
func TestFirst(t *testing.T) {
	for author := range byte(api.Authors) {
		c := chain.New()
		for _, prev := range []api.Key{{1}, {31: 1}, sumOf(author, 1)} {
			refuses(t, c, told(author, 1, prev, 1), api.ErrForm)
		}
		adds(t, c, told(author, 1, api.Key{}, 1), api.OK)
		// What is of a wrong form while it would be the first one is a fork later.
		f := told(author, 1, api.Key{1}, 1)
		forks(t, c, f, api.Proof{Author: author, Number: 1, A: sumOf(author, 1), B: frame.Sum(f)})
	}
}

// P13.1: the next one behind another one
func TestNext(t *testing.T) {
	for n := 1; n < 6; n++ {
		c := filled(t, 0, n, 2)
		last := sumOf(1, uint32(n))
		wrong := []api.Key{{}, other(last), {9}, sumOf(2, 2)}
		if n > 1 { // that of 0 is all 0, as the first one here
			wrong = append(wrong, sumOf(1, uint32(n-1)))
		}
		for _, prev := range wrong {
			f := told(1, uint32(n+1), prev, 1)
			forks(t, c, f, api.Proof{Author: 1, Number: uint32(n), A: last, B: prev})
			refuses(t, c, f, api.ErrFork)
			refuses(t, c, told(1, uint32(n+1), prev, 2), api.ErrFork)
		}
		looks(t, c, told(1, uint32(n+1), last, 3), api.OK)
		adds(t, c, told(1, uint32(n+1), last, 3), api.OK)
	}
}

// P13.1: behind a gap it is nothing else
func TestGap(t *testing.T) {
	for n := range 4 {
		c := filled(t, 9, n)
		for _, number := range []uint32{uint32(n + 2), uint32(n + 3), 10, 255, 256} {
			for _, prev := range []api.Key{{}, {9}, sumOf(1, uint32(n))} {
				refuses(t, c, told(1, number, prev, 1), api.ErrGap)
			}
		}
	}
	c := filled(t, 0, 254)
	refuses(t, c, told(1, 256, api.Key{}, 1), api.ErrGap)
	adds(t, c, told(1, 255, sumOf(1, 254), 1), api.OK)
	adds(t, c, told(1, 256, sumOf(1, 255), 1), api.OK)
}

// P13.1: a frame that was behind a gap may come later
func TestGapIsFilled(t *testing.T) {
	c := chain.New()
	l := tale(3, 4)
	for i := len(l) - 1; i > 0; i-- {
		refuses(t, c, l[i], api.ErrGap)
	}
	for _, f := range l {
		adds(t, c, f, api.OK)
	}
	holds(t, c, headsOf(0, 0, 0, 4))
}

// P13.1, P13.2: authors are on their own
func TestAuthorsAreOnTheirOwn(t *testing.T) {
	counts := []int{3, 0, 1, 7, 0, 2, 256, 1}
	c := filled(t, counts...)
	holds(t, c, headsOf(counts...))
	for author, n := range counts {
		for _, f := range tale(byte(author), n) {
			refuses(t, c, f, api.ErrKnown)
		}
		// What another author told as the same number is a fork behind the first one, which stands behind nothing.
		for _, f := range tale(byte(author+1)%8, n)[min(1, n):] {
			f.Author = byte(author)
			looks(t, c, f, api.ErrFork)
		}
	}
}

// P13.1: frames without bytes have a digest of 0
func TestUnwritable(t *testing.T) {
	c := chain.New()
	many := unwritable(2, 1, api.Key{}, 1)
	many.Body, many.Wraps = nil, make([]api.Wrap, api.MaxWraps+1)
	refuses(t, c, unwritable(2, 1, api.Key{9}, 1), api.ErrForm)
	for number := uint32(1); number <= 3; number++ {
		adds(t, c, unwritable(2, number, api.Key{}, 1), api.OK)
		holds(t, c, [api.Authors]api.Head{2: {Count: number}})
	}
	// All of them have one digest.
	refuses(t, c, unwritable(2, 1, api.Key{}, 1), api.ErrKnown)
	refuses(t, c, unwritable(2, 2, api.Key{9}, 5), api.ErrKnown)
	refuses(t, c, unwritable(2, 3, api.Key{}, 2), api.ErrKnown)
	refuses(t, c, many, api.ErrKnown)
	refuses(t, c, unwritable(2, 5, api.Key{}, 1), api.ErrGap)
	f := told(2, 2, api.Key{}, 1)
	forks(t, c, f, api.Proof{Author: 2, Number: 2, B: frame.Sum(f)})
	forks(t, c, unwritable(2, 4, api.Key{9}, 1), api.Proof{Author: 2, Number: 3, B: api.Key{9}})
	f = told(2, 4, api.Key{}, 1)
	adds(t, c, f, api.OK)
	forks(t, c, unwritable(2, 4, api.Key{}, 1), api.Proof{Author: 2, Number: 4, A: frame.Sum(f)})
	// What the next one says of it is the same, and noted already.
	refuses(t, c, unwritable(2, 5, api.Key{}, 1), api.ErrFork)
	adds(t, c, unwritable(2, 5, frame.Sum(f), 1), api.OK)
	compares(t, c, [api.Authors]api.Head{2: {Count: 5}})
	compares(t, c, [api.Authors]api.Head{2: {Count: 1}})
	compares(t, c, [api.Authors]api.Head{2: {Count: 1, Sum: api.Key{1}}}, api.Proof{Author: 2, Number: 1, B: api.Key{1}})
	compares(t, c, [api.Authors]api.Head{2: {Count: 4}}, api.Proof{Author: 2, Number: 4, A: frame.Sum(f)})
}

// P13.1, P13.2: none is noted twice, whichever way it is found
func TestNotedOnce(t *testing.T) {
	c := filled(t, 0, 0, 0, 0, 0, 2)
	f := told(5, 2, sumOf(5, 1), 2)
	same := api.Proof{Author: 5, Number: 2, A: sumOf(5, 2), B: frame.Sum(f)}
	heads := [api.Authors]api.Head{5: {Count: 2, Sum: frame.Sum(f)}}
	forks(t, c, f, same)
	for range 3 {
		refuses(t, c, f, api.ErrFork)
		refuses(t, c, told(5, 3, frame.Sum(f), 1), api.ErrFork)
		compares(t, c, heads, same)
	}
	holds(t, c, headsOf(0, 0, 0, 0, 0, 2), same)
	// It is the same proof when the count has grown.
	adds(t, c, told(5, 3, sumOf(5, 2), 1), api.OK)
	refuses(t, c, f, api.ErrFork)
	compares(t, c, heads, same)
	holds(t, c, headsOf(0, 0, 0, 0, 0, 3), same)
	// One that stands behind a fork is another proof now, of its own number.
	next := told(5, 3, frame.Sum(f), 1)
	forks(t, c, next, api.Proof{Author: 5, Number: 3, A: sumOf(5, 3), B: frame.Sum(next)})
}

// many are so many unlike proofs against the first frame of author 1, and fills notes them.
func many(n int) []api.Proof {
	var l []api.Proof
	for i := range n {
		l = append(l, api.Proof{Author: 1, Number: 1, A: sumOf(1, 1), B: frame.Sum(told(1, 1, api.Key{}, byte(i+2)))})
	}
	return l
}

func fills(t *testing.T, c *chain.Chain, n int) {
	t.Helper()
	for i := range n {
		adds(t, c, told(1, 1, api.Key{}, byte(i+2)), api.ErrFork)
	}
}

// P13.2: MaxProof, and one more
func TestMaxProof(t *testing.T) {
	c := filled(t, 1, 2)
	for i := range api.MaxProof {
		f := told(1, 1, api.Key{}, byte(i+2))
		forks(t, c, f, many(i + 1)[i])
	}
	refuses(t, c, told(1, 1, api.Key{}, 200), api.ErrFork)
	refuses(t, c, told(1, 3, api.Key{9}, 1), api.ErrFork)
	refuses(t, c, told(0, 1, api.Key{}, 200), api.ErrFork)
	refuses(t, c, told(1, 1, api.Key{}, 2), api.ErrFork)
	l := [api.Authors]api.Head{0: {Count: 1, Sum: api.Key{1}}, 1: {Count: 2}}
	for range 2 {
		compares(t, c, l, api.Proof{Author: 0, Number: 1, A: sumOf(0, 1), B: api.Key{1}}, api.Proof{Author: 1, Number: 2, A: sumOf(1, 2)})
	}
	holds(t, c, headsOf(1, 2), many(api.MaxProof)...)
	// What is true is still added.
	adds(t, c, told(1, 3, sumOf(1, 2), 1), api.OK)
	holds(t, c, headsOf(1, 3), many(api.MaxProof)...)
}

// P13.2: Compare answers all, and notes as many as there is room for
func TestCompareWithoutRoom(t *testing.T) {
	for room := range 10 {
		c := filled(t, 1, 1, 1, 1, 1, 1, 1, 1)
		fills(t, c, api.MaxProof-room)
		var wrong [api.Authors]api.Head
		var want []api.Proof
		for i := range wrong {
			author := byte(i)
			wrong[i] = api.Head{Count: 1, Sum: other(sumOf(author, 1))}
			want = append(want, api.Proof{Author: author, Number: 1, A: sumOf(author, 1), B: other(sumOf(author, 1))})
		}
		all := append(many(api.MaxProof-room), want[:min(room, len(want))]...)
		for range 2 {
			compares(t, c, wrong, want...)
			holds(t, c, headsOf(1, 1, 1, 1, 1, 1, 1, 1), all...)
		}
	}
}

// P13.2: one that is noted already takes no room
func TestCompareOfNoted(t *testing.T) {
	c := filled(t, 1, 1, 1)
	first := api.Proof{Author: 0, Number: 1, A: sumOf(0, 1), B: api.Key{4}}
	last := api.Proof{Author: 2, Number: 1, A: sumOf(2, 1), B: api.Key{4}}
	compares(t, c, [api.Authors]api.Head{0: {Count: 1, Sum: api.Key{4}}}, first)
	fills(t, c, api.MaxProof-2)
	compares(t, c, [api.Authors]api.Head{0: {Count: 1, Sum: api.Key{4}}, 2: {Count: 1, Sum: api.Key{4}}}, first, last)
	holds(t, c, headsOf(1, 1, 1), append(append([]api.Proof{first}, many(api.MaxProof-2)...), last)...)
}

// P13.2: which counts are looked at
func TestCompareOfCounts(t *testing.T) {
	for n := range 5 {
		for author := range byte(api.Authors) {
			counts := [api.Authors]int{2, 2, 2, 2, 2, 2, 2, 2}
			counts[author] = n
			for _, count := range []uint32{0, 1, 2, 3, 4, 5, 6, 255, 256, 257, math.MaxUint32} {
				for _, sum := range []api.Key{{}, {9}, {31: 9}} {
					c := filled(t, counts[:]...)
					l := [api.Authors]api.Head{}
					l[author] = api.Head{Count: count, Sum: sum}
					var want []api.Proof
					if count >= 1 && count <= uint32(n) {
						want = []api.Proof{{Author: author, Number: count, A: sumOf(author, count), B: sum}}
					}
					compares(t, c, l, want...)
					holds(t, c, headsOf(counts[:]...), want...)
				}
			}
		}
	}
}

// P13.2: several authors at once, rising
func TestCompareOfSeveral(t *testing.T) {
	c := filled(t, 3, 3, 3, 0, 3, 3, 3, 3)
	l := [api.Authors]api.Head{
		{Count: 3, Sum: sumOf(0, 3)},
		{Count: 2, Sum: sumOf(1, 3)},
		{Count: 4, Sum: api.Key{1}},
		{Count: 1, Sum: api.Key{2}},
		{Count: 1, Sum: sumOf(5, 1)},
		{Count: 0, Sum: api.Key{3}},
		{Count: 1, Sum: sumOf(6, 1)},
		{Count: 3},
	}
	want := []api.Proof{
		{Author: 1, Number: 2, A: sumOf(1, 2), B: sumOf(1, 3)},
		{Author: 4, Number: 1, A: sumOf(4, 1), B: sumOf(5, 1)},
		{Author: 7, Number: 3, A: sumOf(7, 3)},
	}
	compares(t, c, l, want...)
	holds(t, c, headsOf(3, 3, 3, 0, 3, 3, 3, 3), want...)
	for i := range l {
		l[i].Sum = other(l[i].Sum)
	}
	if got := c.Compare(l); len(got) != 5 || got[0].Author != 0 || got[1].Author != 1 || got[2].Author != 4 || got[3].Author != 6 || got[4].Author != 7 {
		t.Error(got)
	}
}

// P13.3
func TestWhatWasAddedIsKnown(t *testing.T) {
	c := chain.New()
	var added []api.Frame
	for i := range 40 {
		for author := range byte(api.Authors) {
			if i%(int(author)+1) != 0 {
				continue
			}
			h := c.Heads()[author]
			f := told(author, h.Count+1, h.Sum, byte(i))
			adds(t, c, f, api.OK)
			added = append(added, f)
		}
		adds(t, c, told(0, uint32(i+1), api.Key{9}, 99), api.ErrFork)
	}
	for _, f := range added {
		refuses(t, c, f, api.ErrKnown)
		f.Body[2]++
		if err := c.Look(f); err != api.ErrFork {
			t.Errorf("another one of %d, %d: %d", f.Author, f.Number, err)
		}
	}
}

// P13.4
func TestTrueHeads(t *testing.T) {
	one, other := chain.New(), chain.New()
	all := [api.Authors][]api.Frame{}
	for i := range all {
		all[i] = tale(byte(i), 12)
	}
	// Each of two hears of the same frames in its own order; what either says at any time is nothing to the other one.
	var was [][api.Authors]api.Head
	for i := range 12 * 8 {
		adds(t, one, all[i%8][i/8], api.OK)
		adds(t, other, all[7-i/12][i%12], api.OK)
		was = append(was, one.Heads(), other.Heads())
		for _, h := range was {
			compares(t, one, h)
			compares(t, other, h)
		}
	}
	holds(t, one, headsOf(12, 12, 12, 12, 12, 12, 12, 12))
	holds(t, other, headsOf(12, 12, 12, 12, 12, 12, 12, 12))
}

// P3
func TestWhatIsHandedInStays(t *testing.T) {
	c := chain.New()
	for _, f := range append(tale(2, 2), told(2, 2, api.Key{}, 9), unwritable(2, 3, api.Key{}, 1)) {
		body := append(slices.Clone(f.Body), 0xa5, 0xa5)
		wraps := append(slices.Clone(f.Wraps), api.Wrap{To: 77})
		f.Body, f.Wraps = body[:len(f.Body)], wraps[:len(f.Wraps)]
		wasBody, wasWraps := slices.Clone(body), slices.Clone(wraps)
		c.Look(f)
		c.Add(f)
		c.Look(f)
		if !slices.Equal(body, wasBody) || !slices.Equal(wraps, wasWraps) {
			t.Errorf("%d was changed", f.Number)
		}
		// What becomes of the caller's lists is nothing to the chain.
		clear(body)
		clear(wraps)
	}
	refuses(t, c, tale(2, 2)[0], api.ErrKnown)
	refuses(t, c, tale(2, 2)[1], api.ErrKnown)
	if c.Heads() != headsOf(0, 0, 2) {
		t.Error(c.Heads())
	}
}

func TestAnswersAreTheCallers(t *testing.T) {
	for n := range 12 {
		c := filled(t, 1, 1)
		fills(t, c, n)
		spoil := func(l []api.Proof) {
			l = l[:cap(l)]
			for i := range l {
				l[i] = api.Proof{Author: 66}
			}
		}
		one, second := c.Proofs(), c.Proofs()
		spoil(one)
		if !slices.Equal(second, many(n)) {
			t.Errorf("%d: two answers are one list", n)
		}
		holds(t, c, headsOf(1, 1), many(n)...)
		found := api.Proof{Author: 0, Number: 1, A: sumOf(0, 1)}
		l := c.Compare([api.Authors]api.Head{{Count: 1}})
		if !slices.Equal(l, []api.Proof{found}) || !slices.Equal(second, many(n)) {
			t.Error(l, second)
		}
		spoil(l)
		spoil(second)
		holds(t, c, headsOf(1, 1), append(many(n), found)...)
	}
}

func TestHeadsAreTheCallers(t *testing.T) {
	c := filled(t, 1, 2)
	h := c.Heads()
	h[1] = api.Head{Count: 5, Sum: api.Key{9}}
	holds(t, c, headsOf(1, 2))
}

// P4
func TestFork(t *testing.T) {
	for n := range 12 {
		c := filled(t, 2, 1, 3)
		fills(t, c, n)
		f := c.Fork()
		if f == c {
			t.Fatal("a fork is the same one")
		}
		holds(t, f, headsOf(2, 1, 3), many(n)...)
		adds(t, f, told(0, 3, sumOf(0, 2), 7), api.OK)
		adds(t, f, told(2, 2, api.Key{}, 7), api.ErrFork)
		holds(t, c, headsOf(2, 1, 3), many(n)...)
		adds(t, c, told(0, 3, sumOf(0, 2), 1), api.OK)
		compares(t, c, [api.Authors]api.Head{0: {Count: 1}}, api.Proof{Number: 1, A: sumOf(0, 1)})
		holds(t, c, headsOf(3, 1, 3), append(many(n), api.Proof{Number: 1, A: sumOf(0, 1)})...)
		want := headsOf(2, 1, 3)
		want[0] = api.Head{Count: 3, Sum: frame.Sum(told(0, 3, sumOf(0, 2), 7))}
		holds(t, f, want, append(many(n), api.Proof{Author: 2, Number: 2, A: sumOf(2, 2), B: frame.Sum(told(2, 2, api.Key{}, 7))})...)
		looks(t, c, told(0, 3, sumOf(0, 2), 1), api.ErrKnown)
		looks(t, c, told(0, 3, sumOf(0, 2), 7), api.ErrFork)
		looks(t, f, told(0, 3, sumOf(0, 2), 7), api.ErrKnown)
		looks(t, f, told(0, 3, sumOf(0, 2), 1), api.ErrFork)
	}
}

// Forks of one, and of each other, have room of their own for what comes next.
func TestForksOfForks(t *testing.T) {
	c := filled(t, 1, 1)
	fills(t, c, 5)
	all := []*chain.Chain{c, c.Fork(), c.Fork()}
	all = append(all, all[1].Fork())
	for i, f := range all {
		adds(t, f, told(0, 2, sumOf(0, 1), byte(100+i)), api.OK)
		adds(t, f, told(0, 1, api.Key{}, byte(100+i)), api.ErrFork)
	}
	for i, f := range all {
		want := headsOf(1, 1)
		want[0] = api.Head{Count: 2, Sum: frame.Sum(told(0, 2, sumOf(0, 1), byte(100+i)))}
		holds(t, f, want, append(many(5), api.Proof{Number: 1, A: sumOf(0, 1), B: frame.Sum(told(0, 1, api.Key{}, byte(100+i)))})...)
	}
}

// plain is the chapter's words once more, in lists.
type plain struct {
	sums   [api.Authors][]api.Key
	proofs []api.Proof
}

func (p *plain) sum(author byte, number uint32) api.Key {
	if number == 0 {
		return api.Key{}
	}
	return p.sums[author][number-1]
}

func (p *plain) note(q api.Proof) {
	if len(p.proofs) < 32 && !slices.Contains(p.proofs, q) {
		p.proofs = append(p.proofs, q)
	}
}

func (p *plain) add(f api.Frame) api.Errno {
	if f.Author > 7 || f.Number < 1 || f.Number > 256 {
		return api.ErrRange
	}
	n := uint32(len(p.sums[f.Author]))
	if f.Number <= n {
		if p.sum(f.Author, f.Number) == frame.Sum(f) {
			return api.ErrKnown
		}
		p.note(api.Proof{Author: f.Author, Number: f.Number, A: p.sum(f.Author, f.Number), B: frame.Sum(f)})
		return api.ErrFork
	}
	if f.Number > n+1 {
		return api.ErrGap
	}
	if f.Prev == p.sum(f.Author, n) {
		p.sums[f.Author] = append(p.sums[f.Author], frame.Sum(f))
		return api.OK
	}
	if n == 0 {
		return api.ErrForm
	}
	p.note(api.Proof{Author: f.Author, Number: n, A: p.sum(f.Author, n), B: f.Prev})
	return api.ErrFork
}

func (p *plain) compare(l [api.Authors]api.Head) []api.Proof {
	var out []api.Proof
	for i, h := range l {
		if h.Count == 0 || h.Count > uint32(len(p.sums[i])) || h.Sum == p.sums[i][h.Count-1] {
			continue
		}
		out = append(out, api.Proof{Author: byte(i), Number: h.Count, A: p.sums[i][h.Count-1], B: h.Sum})
		p.note(out[len(out)-1])
	}
	return out
}

func (p *plain) heads() [api.Authors]api.Head {
	var l [api.Authors]api.Head
	for i, s := range p.sums {
		l[i] = api.Head{Count: uint32(len(s)), Sum: p.sum(byte(i), uint32(len(s)))}
	}
	return l
}

// draws are numbers that look drawn, and are the same ones every time.
type draws struct {
	at    uint64
	block []byte
}

func (d *draws) below(n int) int {
	if len(d.block) < 8 {
		d.at++
		sum := sha256.Sum256(binary.BigEndian.AppendUint64(nil, d.at))
		d.block = sum[:]
	}
	x := binary.BigEndian.Uint64(d.block)
	d.block = d.block[8:]
	return int(x % uint64(n))
}

// frameOf draws one: mostly the next one, at times an old one, one behind a gap, or a wrong one.
func (d *draws) frameOf(p *plain) api.Frame {
	author := byte(d.below(3) * 3)
	n := len(p.sums[author])
	number := uint32(max(0, n+1+[]int{0, 0, 0, -1, -2, 1, -d.below(n + 1)}[d.below(7)]))
	var prev api.Key
	if number >= 1 && int(number) <= n+1 {
		prev = p.sum(author, number-1)
	}
	if d.below(8) == 0 {
		prev[d.below(2)]++
	}
	mark := byte(max(1, d.below(5)-2))
	if d.below(6) == 0 {
		return unwritable(author, number, prev, mark)
	}
	return told(author, number, prev, mark)
}

// headsOf draws some, near to those that are.
func (d *draws) headsOf(p *plain) [api.Authors]api.Head {
	var l [api.Authors]api.Head
	for i := range l {
		n := len(p.sums[i])
		l[i].Count = uint32(d.below(n + 3))
		if int(l[i].Count) <= n {
			l[i].Sum = p.sum(byte(i), l[i].Count)
		}
		if d.below(20) == 0 {
			l[i].Sum[d.below(32)]++
		}
	}
	return l
}

// P13.1, P13.2
func TestAsTheWordsSay(t *testing.T) {
	d := &draws{}
	met := map[api.Errno]int{}
	for range 40 {
		c, p := chain.New(), &plain{}
		for range 120 {
			if d.below(10) == 0 {
				l := d.headsOf(p)
				compares(t, c, l, p.compare(l)...)
			} else {
				f := d.frameOf(p)
				looked := c.Look(f)
				want := p.add(f)
				met[want]++
				if looked != want {
					t.Fatalf("Look of %d, %d: %d instead of %d", f.Author, f.Number, looked, want)
				}
				adds(t, c, f, want)
			}
			holds(t, c, p.heads(), p.proofs...)
			if d.below(10) == 0 {
				c = c.Fork()
			}
		}
	}
	for _, err := range []api.Errno{api.OK, api.ErrRange, api.ErrForm, api.ErrKnown, api.ErrGap, api.ErrFork} {
		if met[err] < 10 {
			t.Errorf("error %d came up %d times", err, met[err])
		}
	}
}

// P6
func TestChainsAreOnTheirOwn(t *testing.T) {
	a, b := filled(t, 2), filled(t, 2)
	adds(t, a, told(0, 1, api.Key{}, 9), api.ErrFork)
	adds(t, a, told(0, 3, sumOf(0, 2), 1), api.OK)
	holds(t, b, headsOf(2))
	adds(t, b, told(0, 3, sumOf(0, 2), 2), api.OK)
}
