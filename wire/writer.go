package wire

import "escritoire/api"

// writer puts things one behind the other, into bytes of its own.
type writer struct{ all []byte }

func (w *writer) put(b ...byte) { w.all = append(w.all, b...) }

func (w *writer) zeros(n int) { w.put(make([]byte, n)...) }

func (w *writer) two(n int) { w.put(byte(n>>8), byte(n)) }

func (w *writer) four(n uint32) { w.put(byte(n>>24), byte(n>>16), byte(n>>8), byte(n)) }

func (w *writer) truth(t bool) {
	if t {
		w.put(1)
	} else {
		w.put(0)
	}
}

func (w *writer) dot(d api.Dot) {
	w.put(d.Author)
	w.four(d.Seq)
}

func (w *writer) event(e api.Event) {
	w.dot(e.Dot)
	for _, n := range e.Past {
		w.four(n)
	}
	w.put(byte(e.Kind))
	w.dot(e.Parent)
	w.truth(e.Right)
	w.put(e.Char, e.Who, byte(e.Role))
	w.zeros(eventSpare)
}

// openly takes a frame of at most MaxWraps wraps: their number has one byte.
func (w *writer) openly(f api.Frame) {
	w.put(firstMark, secondMark, f.Author)
	w.four(f.Number)
	w.dot(f.Epoch)
	w.put(f.Prev[:]...)
	w.put(byte(len(f.Wraps)))
	for _, wrap := range f.Wraps {
		w.put(wrap.To)
		w.dot(wrap.Epoch)
		w.put(wrap.Data[:]...)
	}
}
