package path

import (
	"quern/api"
	"quern/shape"
	"quern/word"
)

// headBytes is how many bytes Total and Leaf have.
const headBytes = 16

// Pack tells a path's bytes: Total, Leaf, and all digests, step by step.
func Pack(t api.Tree, p api.Path) ([]byte, api.Errno) {
	w, e := find(t, p.Total, p.Leaf)
	switch {
	case e != api.OK:
		return nil, e
	case !w.fits(p.Steps):
		return nil, api.ErrForm
	}
	packed := append(word.Store64(p.Total), word.Store64(p.Leaf)...)
	for _, s := range p.Steps {
		packed = appendAll(packed, s.Before)
		packed = appendAll(packed, s.After)
	}
	return packed, api.OK
}

func appendAll(b []byte, list [][]byte) []byte {
	for _, digest := range list {
		b = append(b, digest...)
	}
	return b
}

// Unpack tells the path whose bytes are b.
func Unpack(t api.Tree, b []byte) (api.Path, api.Errno) {
	if e := shape.Valid(t); e != api.OK {
		return api.Path{}, e
	}
	if len(b) < headBytes {
		return api.Path{}, api.ErrShort
	}
	total, _ := word.Load64(b, 0)
	leaf, _ := word.Load64(b, 8)
	w, e := find(t, total, leaf)
	if e != api.OK {
		return api.Path{}, e
	}
	rest := b[headBytes:]
	if e := w.holds(len(rest)); e != api.OK {
		return api.Path{}, e
	}
	p := w.path()
	for i, f := range w.forks {
		p.Steps[i].Before, rest = w.cut(rest, f.before())
		p.Steps[i].After, rest = w.cut(rest, f.after())
	}
	return p, api.OK
}

// holds tells whether so many bytes are those of the digests beside the way, or why not.
func (w way) holds(size int) api.Errno {
	inner := uint64(w.tree.Inner)
	// Whole digests are held against each other: the bytes of all that a head asks for might not fit a number.
	whole, asked := uint64(size)/inner, w.digests()
	switch {
	case whole < asked:
		return api.ErrShort
	case whole > asked, uint64(size)%inner != 0:
		return api.ErrMore
	}
	return api.OK
}

// cut tells the first n digests of b, each with memory of its own, and what is left behind them.
func (w way) cut(b []byte, n uint64) (list [][]byte, rest []byte) {
	inner := w.tree.Inner
	list = make([][]byte, n)
	for i := range list {
		digest := b[:inner:inner]
		list[i] = make([]byte, inner)
		copy(list[i], digest)
		b = b[inner:]
	}
	return list, b
}
