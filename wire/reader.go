package wire

import (
	"bytes"

	"escritoire/api"
)

// wrongForm is what a reader panics with, so that what reads a part needn't ask whether those ahead of it could be read.
type wrongForm struct{}

// need gives up, unless something holds.
func need(holds bool) {
	if !holds {
		panic(wrongForm{})
	}
}

// readWhole is what bytes say, if all of them say it and nothing else.
func readWhole[T any](b []byte, read func(*reader) T) (thing T, e api.Errno) {
	defer func() {
		switch why := recover().(type) {
		case nil:
		case wrongForm:
			var none T
			thing, e = none, api.ErrForm
		default:
			panic(why)
		}
	}()
	r := &reader{rest{b}}
	thing = read(r)
	need(len(r.left) == 0)
	return thing, api.OK
}

// rest is the bytes that are not read yet.
type rest struct{ left []byte }

// take are the next bytes, where they lie: they are only for looking at, or for copying.
func (r *rest) take(n int) []byte {
	need(n <= len(r.left))
	taken := r.left[:n:n]
	r.left = r.left[n:]
	return taken
}

// reader makes things of bytes, and gives up where they are of a wrong form.
type reader struct{ rest }

func (r *reader) one() byte { return r.take(1)[0] }

func (r *reader) two() int {
	b := r.take(2)
	return int(b[0])<<8 | int(b[1])
}

func (r *reader) four() uint32 {
	b := r.take(4)
	return uint32(b[0])<<24 | uint32(b[1])<<16 | uint32(b[2])<<8 | uint32(b[3])
}

func (r *reader) zeros(n int) {
	for _, x := range r.take(n) {
		need(x == 0)
	}
}

func (r *reader) truth() bool {
	x := r.one()
	need(x <= 1)
	return x == 1
}

func (r *reader) key() api.Key { return api.Key(r.take(keySize)) }

func (r *reader) dot() api.Dot {
	var d api.Dot
	d.Author = r.one()
	d.Seq = r.four()
	return d
}

func (r *reader) event() api.Event {
	var e api.Event
	e.Dot = r.dot()
	for i := range e.Past {
		e.Past[i] = r.four()
	}
	e.Kind = api.Kind(r.one())
	e.Parent = r.dot()
	e.Right = r.truth()
	e.Char = r.one()
	e.Who = r.one()
	e.Role = api.Role(r.one())
	r.zeros(eventSpare)
	return e
}

func (r *reader) frame() api.Frame {
	need(r.one() == firstMark)
	need(r.one() == secondMark)
	var f api.Frame
	f.Author = r.one()
	f.Number = r.four()
	f.Epoch = r.dot()
	f.Prev = r.key()
	f.Wraps = r.wraps()
	f.Body = r.body()
	f.Mac = r.key()
	return f
}

func (r *reader) wraps() []api.Wrap {
	count := int(r.one())
	need(count <= api.MaxWraps)
	l := make([]api.Wrap, count)
	for i := range l {
		l[i] = r.wrap()
	}
	return l
}

func (r *reader) wrap() api.Wrap {
	var w api.Wrap
	w.To = r.one()
	w.Epoch = r.dot()
	copy(w.Data[:], r.take(len(w.Data)))
	return w
}

func (r *reader) body() []byte {
	size := r.two()
	need(size <= maxSealed)
	return bytes.Clone(r.take(size))
}

func (r *reader) heads() [api.Authors]api.Head {
	var l [api.Authors]api.Head
	for i := range l {
		l[i].Count = r.four()
		l[i].Sum = r.key()
	}
	return l
}

// padded asks for the very bucket, since Pad takes no greater one.
func (r *reader) padded() []byte {
	size := len(r.left)
	length := r.two()
	need(Bucket(length) == size)
	b := bytes.Clone(r.take(length))
	r.zeros(len(r.left))
	return b
}
