package slice_test

import (
	"bytes"
	"encoding/binary"
	"fmt"
	"math"
	"testing"

	"quern/api"
	"quern/slice"
)

// forms visits laid forms of messages at which trees turn.
func forms(t testing.TB, list []api.Tree, visit func(what string, x api.Tree, data, form []byte, pieces []piece, digest []byte)) {
	t.Helper()
	for _, x := range list {
		for _, n := range lengths(x) {
			form, pieces, digest := laid(t, x, pattern(n))
			visit(fmt.Sprintf("%s, %d bytes", named(x), n), x, pattern(n), form, pieces, digest)
		}
	}
}

// fewTrees are those whose forms are gone through bit by bit.
func fewTrees() []api.Tree {
	var list []api.Tree
	for _, k := range kinds {
		list = append(list, bare(k, 2, 255, 2), grown(k, 0, 2, 3), grown(k, 3, 4, 1), dressed(weak(k, 2, 3, 2)), weak(k, 2, 255, 1))
	}
	return list
}

func TestRead(t *testing.T) { // P18.2, P18.7: the message of its laid form
	forms(t, trees(1, 3), func(what string, x api.Tree, data, form []byte, _ []piece, digest []byte) {
		wantRead(t, what, x, digest, form, data, 0, api.OK)
		wantReadAsHeard(t, what, x, digest, form)
	})
}

func TestReadCut(t *testing.T) { // P18.2: cut off at every place: within the eight, within a piece, between two
	t.Parallel()
	forms(t, trees(3), func(what string, x api.Tree, data, form []byte, pieces []piece, digest []byte) {
		for n := range form {
			// The first piece that is not whole; one without a byte is whole at once.
			at := 0
			for _, p := range pieces {
				if n >= 8 && p.start+len(p.data) > n {
					at = p.start
					break
				}
			}
			wantRead(t, fmt.Sprintf("%s, cut at %d", what, n), x, digest, form[:n], nil, at, api.ErrShort)
			wantPart(t, fmt.Sprintf("%s, cut at %d", what, n), x, form[:n], 0, mostNumber, nil, at, api.ErrShort)
		}
	})
}

func TestReadMore(t *testing.T) { // P18.2: bytes behind the end, noughts and the form itself among them
	forms(t, trees(1, 3), func(what string, x api.Tree, data, form []byte, _ []piece, digest []byte) {
		for _, more := range [][]byte{{0}, {1}, make([]byte, 8), pattern(100), form} {
			wantRead(t, what+", more behind", x, digest, append(bytes.Clone(form), more...), nil, len(form), api.ErrMore)
		}
	})
}

func TestReadTurned(t *testing.T) { // P18.2, P18.7: each single bit turned
	t.Parallel()
	forms(t, fewTrees(), func(what string, x api.Tree, data, form []byte, pieces []piece, digest []byte) {
		if len(form) > 120 {
			return
		}
		for i := range 8 * len(form) {
			turned := bytes.Clone(form)
			turned[i/8] ^= 1 << (i % 8)
			h := wantReadAsHeard(t, fmt.Sprintf("%s, bit %d turned", what, i), x, digest, turned)
			if x.Digest > 4 && x.Inner > 4 && h.why == api.OK {
				t.Errorf("%s: bit %d turned is taken", what, i)
			}
		}
	})
}

func TestReadTurnedPlaces(t *testing.T) { // P18.2: ErrFalse at the first byte of the piece in which a byte is another one
	t.Parallel()
	forms(t, trees(3), func(what string, x api.Tree, data, form []byte, pieces []piece, digest []byte) {
		if len(pieces) > 20 || x.Digest < 5 || x.Inner < 5 {
			return
		}
		for _, p := range pieces {
			for _, i := range []int{0, len(p.data) / 2, len(p.data) - 1} {
				if len(p.data) == 0 {
					continue
				}
				turned := bytes.Clone(form)
				turned[p.start+i] ^= 0x10
				wantRead(t, what+", a byte turned", x, digest, turned, nil, p.start, api.ErrFalse)
				// What is behind it, or missing there, is not come to.
				wantRead(t, what+", a byte turned and more", x, digest, append(turned, 1), nil, p.start, api.ErrFalse)
				wantRead(t, what+", a byte turned and cut", x, digest, turned[:p.start+len(p.data)], nil, p.start, api.ErrFalse)
				wantRead(t, what+", a byte turned in a piece that is cut", x, digest, turned[:p.start+len(p.data)-1], nil, p.start, api.ErrShort)
			}
		}
	})
}

func TestReadExchanged(t *testing.T) { // P18.2: two leaves, or two outputs, in one another's place
	for _, k := range kinds {
		x := bare(k, 2, 255, 2)
		form, pieces, digest := laid(t, x, pattern(16))
		for i, p := range pieces {
			for j, q := range pieces[i+1:] {
				if len(p.data) != len(q.data) || bytes.Equal(p.data, q.data) {
					continue
				}
				changed := bytes.Clone(form)
				copy(changed[p.start:], q.data)
				copy(changed[q.start:], p.data)
				wantRead(t, fmt.Sprintf("pieces %d and %d exchanged", i, i+1+j), x, digest, changed, nil, p.start, api.ErrFalse)
			}
		}
		changed := bytes.Clone(form)
		copy(changed[8:], pieces[0].data[x.Inner:])
		copy(changed[8+x.Inner:], pieces[0].data[:x.Inner])
		wantRead(t, "the root's outputs exchanged", x, digest, changed, nil, 8, api.ErrFalse)
	}
}

func TestReadTotals(t *testing.T) { // P18.2: eight bytes that say another length
	for _, x := range fewTrees() {
		for _, n := range []int{0, 1, 5, 11} {
			form, _, digest := laid(t, x, pattern(n))
			for _, total := range []uint64{1<<40 + 1, 1 << 41, 1 << 48, 1<<48 + 1, 1 << 63, mostNumber - 1, mostNumber} {
				for _, size := range []int{8, 9, len(form)} {
					changed := bytes.Clone(form[:size])
					binary.LittleEndian.PutUint64(changed, total)
					what := fmt.Sprintf("%s, a total of %d", named(x), total)
					wantRead(t, what, x, digest, changed, nil, 0, api.ErrTotal)
					wantPart(t, what, x, changed, 0, 1, nil, 0, api.ErrTotal)
					wantReadPart(t, what, x, digest, changed, 0, 1, nil, 0, 0, api.ErrTotal)
					wantRead(t, what+", cut", x, digest, changed[:7], nil, 0, api.ErrShort)
				}
			}
			for total := range uint64(20) {
				changed := bytes.Clone(form)
				binary.LittleEndian.PutUint64(changed, total)
				what := fmt.Sprintf("%s, %d bytes told as %d", named(x), n, total)
				wantReadAsHeard(t, what, x, digest, changed)
				for from := range uint64(12) {
					wantPartAsHeard(t, what, x, changed, from, 2)
					wantAsHeard(t, what, x, digest, changed, from, 2)
				}
			}
		}
	}
}

func TestReadGreatTotals(t *testing.T) { // P18.2, Limits: up to MaxTotal the first piece is asked for, however long it is
	for _, x := range edgeTrees() {
		for _, total := range []uint64{1 << 32, 1<<40 - 1, 1 << 40} {
			form := binary.LittleEndian.AppendUint64(nil, total)
			digest := pattern(x.Digest)
			what := fmt.Sprintf("%s, a total of %d", named(x), total)
			root := lieOf(x, total)
			size := root.size(root.root(), 0)
			if size > 1<<20 {
				wantRead(t, what, x, digest, append(form, pattern(1<<10)...), nil, 8, api.ErrShort)
				wantPart(t, what, x, append(form, pattern(1<<10)...), total-1, 1, nil, 8, api.ErrShort)
				continue
			}
			wantRead(t, what, x, digest, form, nil, 8, api.ErrShort)
			wantRead(t, what, x, digest, append(form, pattern(int(size)-1)...), nil, 8, api.ErrShort)
			whole := append(form, pattern(int(size))...)
			wantPart(t, what, x, whole, total-1, 1, nil, len(whole), api.ErrShort)
			wantReadAsHeard(t, what, x, digest, whole)
		}
	}
}

func TestReadOtherDigests(t *testing.T) { // P18.2: the digest of another message, and digests of other lengths
	forms(t, trees(3), func(what string, x api.Tree, data, form []byte, pieces []piece, digest []byte) {
		_, _, other := laid(t, x, append(bytes.Clone(data), 7))
		if !bytes.Equal(other, digest) {
			wantRead(t, what+", another digest", x, other, form, nil, 8, api.ErrFalse)
			wantReadPart(t, what+", another digest", x, other, form, 0, mostNumber, nil, 0, 8, api.ErrFalse)
		}
		long := append(bytes.Clone(digest), 0)
		for _, wrong := range [][]byte{nil, {}, digest[:len(digest)-1], long, pattern(200)} {
			wantRead(t, what+", a digest of another length", x, wrong, form, nil, 8, api.ErrFalse)
			wantReadPart(t, what+", a digest of another length", x, wrong, form, 0, mostNumber, nil, 0, 8, api.ErrFalse)
			wantRead(t, what+", such a digest and a form that is cut", x, wrong, form[:8], nil, 8, api.ErrShort)
			wantRead(t, what+", such a digest and less than eight bytes", x, wrong, form[:7], nil, 0, api.ErrShort)
		}
	})
}

func TestReadOtherTrees(t *testing.T) { // P18.2: each of a tree's fields counts
	for _, k := range kinds {
		x := grown(k, 2, 255, 3)
		form, _, digest := laid(t, x, pattern(20))
		wantRead(t, "the tree itself", x, digest, form, pattern(20), 0, api.OK)
		for what, change := range map[string]func(*api.Tree){
			"fanout":      func(x *api.Tree) { x.Fanout = 3 },
			"depth":       func(x *api.Tree) { x.Depth = 254 },
			"leaf":        func(x *api.Tree) { x.Leaf = 4 },
			"key":         func(x *api.Tree) { x.Key = rising(6) },
			"another key": func(x *api.Tree) { x.Key = pattern(5) },
			"no key":      func(x *api.Tree) { x.Key = nil },
			"salt":        func(x *api.Tree) { x.Salt = nil },
			"personal":    func(x *api.Tree) { x.Personal = nil },
		} {
			other := x
			change(&other)
			// Other bytes of a key as long as it are not seen ahead of the first leaf.
			if h := wantReadAsHeard(t, what, other, digest, form); h.why != api.ErrFalse {
				t.Errorf("%s: error %d", what, h.why)
			}
		}
	}
}

func TestReadOfAnEmptyLeaf(t *testing.T) { // P18.2: a piece without a byte has to be sound too
	for _, k := range kinds {
		for _, x := range []api.Tree{bare(k, 2, 255, 2), grown(k, 0, 2, 3), bare(k, 3, 2, 1)} {
			form, pieces, digest := laid(t, x, nil)
			wantRead(t, "no byte", x, digest, form, nil, 0, api.OK)
			// A root over an output that no empty leaf has.
			wrong := bytes.Clone(form)
			wrong[8] ^= 1
			l := lieOf(x, 0)
			root := output(t, l.call(1, 0, wrong[8:]))
			wantRead(t, "an empty leaf that is false", x, root, wrong, nil, len(form), api.ErrFalse)
			wantRead(t, "and a byte behind it", x, root, append(wrong, 0), nil, len(form), api.ErrFalse)
			wantReadPart(t, "as a part", x, root, wrong, 7, 7, nil, 0, len(form), api.ErrFalse)
			wantPart(t, "by lengths alone", x, wrong, 0, 0, wrong, 0, api.OK)
			if len(pieces) != 2 {
				t.Errorf("%d pieces", len(pieces))
			}
		}
	}
}

func TestReadChance(t *testing.T) { // P18.2: bytes by chance, which short digests take now and then
	t.Parallel()
	c := chance(1)
	taken := 0
	for range 30000 {
		k := kinds[c.below(2)]
		x := weak(k, []int{0, 2, 3}[c.below(3)], []int{2, 3, 255}[c.below(3)], uint32(1+c.below(3)))
		total := c.below(4)
		form := append(binary.LittleEndian.AppendUint64(nil, uint64(total)), c.bytes(c.below(8))...)
		digest := c.bytes(1)
		// Half of them have a root that is sound.
		if l := lieOf(x, uint64(total)); c.below(2) == 0 && uint64(len(form)) >= 8+l.size(l.root(), 0) {
			digest = output(t, l.call(l.root(), 0, form[8:8+l.size(l.root(), 0)]))
		}
		if h := wantReadAsHeard(t, named(x), x, digest, form); h.why == api.OK {
			taken++
		}
	}
	if taken == 0 {
		t.Errorf("none was taken")
	}
}

func TestOneLaidForm(t *testing.T) { // P18.7: what is read under a digest without a clash is the one form that Lay tells
	forms(t, trees(1, 3), func(what string, x api.Tree, data, form []byte, _ []piece, digest []byte) {
		got, at, e := slice.Read(x, digest, form)
		if e != api.OK || at != 0 {
			t.Fatalf("%s: error %d at %d", what, e, at)
		}
		again, e := slice.Lay(x, got)
		wantBytes(t, what, again, e, form)
	})
}

func TestLongLeaf(t *testing.T) { // P18.1, P18.2: a leaf that is longer than its message
	for _, k := range kinds {
		for _, fanout := range []int{0, 2, 255} {
			x := bare(k, fanout, 255, math.MaxUint32)
			form, _, digest := laid(t, x, pattern(1000))
			if len(form) != 8+x.Inner+1000 {
				t.Errorf("%d bytes", len(form))
			}
			wantRead(t, named(x), x, digest, form, pattern(1000), 0, api.OK)
			wantRead(t, named(x), x, digest, form[:len(form)-1], nil, 8+x.Inner, api.ErrShort)
		}
	}
}
