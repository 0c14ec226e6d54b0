package slice_test

import (
	"bytes"
	"encoding/binary"
	"fmt"
	"testing"

	"quern/api"
	"quern/clash"
	"quern/slice"
	"quern/tree"
)

// weakTrees are those in which unlike calls meet at once.
func weakTrees() []api.Tree {
	var list []api.Tree
	for _, k := range kinds {
		list = append(list,
			weak(k, 2, 255, 2), weak(k, 0, 2, 3), weak(k, 2, 3, 2), weak(k, 3, 4, 2), weak(k, 255, 255, 4),
			dressed(weak(k, 2, 255, 3)), dressed(weak(k, 3, 2, 2)))
	}
	return list
}

// forge tells the form of a part that is sound under a digest: its first pieces as they are handed in, as long as they fit, and the others by chance; or false, where chance finds none.
func forge(t testing.TB, c *chance, x api.Tree, digest []byte, total, from, n uint64, first []piece) ([]byte, bool) {
	t.Helper()
	l := lieOf(x, total)
	lo, hi := l.wanted(from, n)
	var pieces []piece
	var down func(row int, at uint64, above []byte) bool
	down = func(row int, at uint64, above []byte) bool {
		if a, b := l.leaves(row, at); b < lo || a > hi {
			return true
		}
		data, ok := meeting(t, c, l, row, at, above, first)
		if !ok {
			return false
		}
		if len(first) > 0 {
			first = first[1:]
		}
		pieces = append(pieces, piece{row: row, at: at, data: data})
		if row == 0 {
			return true
		}
		begin, end := l.below(row, at)
		for child := begin; child < end; child++ {
			if i := child - begin; !down(row-1, child, data[i:i+1]) {
				return false
			}
		}
		return true
	}
	ok := down(l.root(), 0, digest)
	return join(total, pieces), ok
}

// meeting tells data of a node whose output is the one above: that of the first piece, or some by chance.
func meeting(t testing.TB, c *chance, l lie, row int, at uint64, above []byte, first []piece) ([]byte, bool) {
	t.Helper()
	size := int(l.size(row, at))
	if len(first) > 0 && len(first[0].data) == size && bytes.Equal(output(t, l.call(row, at, first[0].data)), above) {
		return first[0].data, true
	}
	for range 1500 {
		data := c.bytes(size)
		if bytes.Equal(output(t, l.call(row, at, data)), above) {
			return data, true
		}
	}
	return nil, false
}

// pair is two calls that Clash has to tell.
type pair struct {
	first, second api.Call
	down          int // rows below the root's
}

// rightClash tells by chapter 18's words what Clash has to tell, or false.
func rightClash(t testing.TB, x api.Tree, data, part []byte, from, n uint64) (pair, bool) {
	t.Helper()
	_, pieces, digest := laid(t, x, data)
	h := listen(t, x, digest, part, from, n)
	if h.why != api.OK || bytes.Equal(h.sound, there(data, from, n)) {
		return pair{}, false
	}
	mine, other := lieOf(x, uint64(len(data))), lieOf(x, h.total)
	for _, p := range h.pieces {
		down := other.root() - p.row
		second := other.call(p.row, p.at, p.data)
		for _, q := range pieces {
			if mine.root()-q.row != down || q.at != p.at {
				continue
			}
			if first := mine.call(q.row, q.at, q.data); !sameCall(first, second) {
				return pair{first, second, down}, true
			}
		}
	}
	t.Fatalf("%s: a part tells other bytes by the same calls", named(x))
	return pair{}, false
}

// wantClash holds what Clash answers against the words, and tells how far down it is.
func wantClash(t testing.TB, what string, x api.Tree, data, part []byte, from, n uint64) (down int, is bool) {
	t.Helper()
	right, is := rightClash(t, x, data, part, from, n)
	if !is {
		wantNoClash(t, what, x, data, part, from, n, api.ErrNone)
		return 0, false
	}
	first, second, e := slice.Clash(x, data, part, from, n)
	if e != api.OK || !sameCall(first, right.first) || !sameCall(second, right.second) {
		t.Errorf("Clash from %d, %d, %s: %v, %v, error %d, want %v, %v", from, n, what, first, second, e, right.first, right.second)
		return right.down, true
	}
	if ok, e := clash.Check(first, second); !ok || e != api.OK {
		t.Errorf("Clash from %d, %d, %s: %v, %v are no clash, error %d", from, n, what, first, second, e)
	}
	return right.down, true
}

func TestClashOfItsOwnParts(t *testing.T) { // P18.6: ErrNone, if the part is as the data has it
	t.Parallel()
	parts(t, append(fewTrees(), weakTrees()...), func(what string, x api.Tree, data, form []byte, part []piece, digest []byte, from, n uint64) {
		if len(data) > 12 || n > 3 && n != mostNumber {
			return
		}
		wantNoClash(t, what, x, data, join(uint64(len(data)), part), from, n, api.ErrNone)
	})
}

func TestClashOfRefusedParts(t *testing.T) { // P18.6: ErrNone, if ReadPart refuses the part
	t.Parallel()
	for _, x := range fewTrees() {
		data := pattern(9)
		form, pieces, _ := laid(t, x, data)
		for from := range uint64(11) {
			whole := join(9, kept(x, 9, pieces, from, 3))
			for n := range whole {
				wantNoClash(t, named(x)+", cut", x, data, whole[:n], from, 3, api.ErrNone)
			}
			wantNoClash(t, named(x)+", more", x, data, append(whole, 0), from, 3, api.ErrNone)
			wantNoClash(t, named(x)+", nothing", x, data, nil, from, 3, api.ErrNone)
			wantNoClash(t, named(x)+", too long", x, data, binary.LittleEndian.AppendUint64(nil, 1<<40+1), from, 3, api.ErrNone)
		}
		for i := range 8 * len(form) {
			turned := bytes.Clone(form)
			turned[i/8] ^= 1 << (i % 8)
			wantClash(t, fmt.Sprintf("%s, bit %d turned", named(x), i), x, data, turned, 0, mostNumber)
		}
		if x.Digest > 4 {
			other, _, _ := laid(t, x, pattern(10))
			wantNoClash(t, named(x)+", of another message", x, data, other, 0, mostNumber, api.ErrNone)
		}
	}
}

func TestClash(t *testing.T) { // P18.6: parts by chance of the same length and of others, which keep some of the message's pieces
	t.Parallel()
	c := chance(11)
	found, none := map[int]int{}, 0
	for _, x := range weakTrees() {
		for range 40 {
			data := c.bytes(c.below(20))
			_, pieces, digest := laid(t, x, data)
			total := uint64(len(data))
			if c.below(2) == 0 {
				total = uint64(c.below(24))
			}
			from, n := uint64(c.below(22)), uint64(c.below(9))
			if c.below(4) == 0 {
				from, n = 0, mostNumber
			}
			own := kept(x, uint64(len(data)), pieces, from, n)
			part, ok := forge(t, &c, x, digest, total, from, n, own[:c.below(len(own)+1)])
			if !ok {
				continue
			}
			if down, is := wantClash(t, fmt.Sprintf("%s, %d bytes", named(x), len(data)), x, data, part, from, n); is {
				found[down]++
			} else {
				none++
			}
		}
	}
	if found[0] < 10 || found[1] < 10 || found[2] < 5 || none < 10 {
		t.Errorf("clashes by rows below the root: %d, none: %d", found, none)
	}
}

func TestClashAtEachPiece(t *testing.T) { // P18.6: the first place from the root on
	t.Parallel()
	c := chance(5)
	for _, x := range weakTrees() {
		data := pattern(17)
		_, pieces, digest := laid(t, x, data)
		for _, p := range [][2]uint64{{0, mostNumber}, {3, 6}, {16, 1}, {0, 1}} {
			own := kept(x, 17, pieces, p[0], p[1])
			for keep := range own {
				if part, ok := forge(t, &c, x, digest, 17, p[0], p[1], own[:keep]); ok {
					wantClash(t, fmt.Sprintf("%s, %d pieces alike", named(x), keep), x, data, part, p[0], p[1])
				}
			}
		}
	}
}

func TestClashOfTheLastLeaf(t *testing.T) { // P18.6: another length that shows at the last leaf alone
	c := chance(6)
	found := 0
	for _, x := range weakTrees() {
		data := pattern(3*int(x.Leaf) - 1)
		total := uint64(len(data)) + 1
		_, pieces, digest := laid(t, x, data)
		for range 5 {
			part, ok := forge(t, &c, x, digest, total, total-1, 1, kept(x, total-1, pieces, total-2, 1))
			if !ok {
				continue
			}
			// Of the last byte of the part the message has none.
			if down, is := wantClash(t, named(x)+", a byte more", x, data, part, total-1, 1); is && down == lieOf(x, total).root() {
				found++
			}
		}
	}
	if found < 20 {
		t.Errorf("%d were found", found)
	}
}

func TestClashOfOtherMessages(t *testing.T) { // P18.6: parts of other messages with the same digest, as Part cuts them
	t.Parallel()
	for _, x := range weakTrees() {
		data := clash.Message(7)
		digest, e := tree.Hash(x, data)
		wantErrno(t, "tree.Hash", e, api.OK)
		found := 0
		for i := 8; found < 5; i++ {
			message := append(clash.Message(i*i*i), clash.Message(i)[:i%4%len(clash.Message(i))]...)
			if other, _ := tree.Hash(x, message); !bytes.Equal(other, digest) {
				continue
			}
			found++
			form, e := slice.Lay(x, message)
			wantErrno(t, "Lay", e, api.OK)
			for from := range uint64(len(message) + 2) {
				for _, n := range []uint64{0, 1, 2, mostNumber} {
					part, _, e := slice.Part(x, form, from, n)
					wantErrno(t, "Part", e, api.OK)
					wantClash(t, fmt.Sprintf("%s, of %s", named(x), message), x, data, part, from, n)
				}
			}
		}
	}
}

func TestClashTellsNothingOfTheSameBytes(t *testing.T) { // P18.6: ErrNone, where the bytes are the same, though the part is another one
	x := bare(api.Small, 2, 255, 4)
	data := pattern(18)
	form, _, _ := laid(t, x, data)
	part, _, e := slice.Part(x, form, 3, 7)
	wantErrno(t, "Part", e, api.OK)
	for total := range uint64(33) {
		part[0] = byte(total)
		wantNoClash(t, fmt.Sprintf("told as %d bytes", total), x, data, part, 3, 7, api.ErrNone)
	}
}

func TestClashOfATurnedDigest(t *testing.T) { // P18.6: a digest beside the way is turned, and the root comes to the same output all the same: no byte is another one
	c := chance(9)
	found := 0
	for _, x := range weakTrees() {
		data := pattern(4 * int(x.Leaf))
		_, pieces, digest := laid(t, x, data)
		own := kept(x, uint64(len(data)), pieces, 0, 1)
		l := lieOf(x, uint64(len(data)))
		for range 3000 {
			beside := bytes.Clone(own[0].data)
			copy(beside[1:], c.bytes(len(beside)-1))
			if !bytes.Equal(output(t, l.call(l.root(), 0, beside)), digest) || bytes.Equal(beside, own[0].data) {
				continue
			}
			turned := append([]piece{{row: own[0].row, data: beside}}, own[1:]...)
			part := join(uint64(len(data)), turned)
			wantReadPart(t, named(x)+", a digest turned", x, digest, part, 0, 1, data[:1], uint64(len(data)), 0, api.OK)
			wantNoClash(t, named(x)+", a digest turned", x, data, part, 0, 1, api.ErrNone)
			found++
			break
		}
	}
	if found < 3 {
		t.Errorf("%d were found", found)
	}
}

func TestClashOfOtherRows(t *testing.T) { // P18.6: roots of unlike rows with the same data are unlike too
	c := chance(41)
	found := 0
	for _, x := range weakTrees() {
		if x.Fanout != 2 || x.Depth < 4 {
			continue
		}
		// Two leaves lie in two rows, three in three; both roots have two children.
		total := 3 * uint64(x.Leaf)
		for range 2000 {
			data := c.bytes(2 * int(x.Leaf))
			_, pieces, digest := laid(t, x, data)
			root := pieces[0].data
			if !bytes.Equal(output(t, lieOf(x, total).call(2, 0, root)), digest) {
				continue
			}
			part, ok := forge(t, &c, x, digest, total, 0, mostNumber, pieces[:1])
			if !ok {
				continue
			}
			first, second, e := slice.Clash(x, data, part, 0, mostNumber)
			if e != api.OK || !bytes.Equal(first.Data, root) || !bytes.Equal(second.Data, root) {
				t.Errorf("%s: %v, %v, error %d", named(x), first, second, e)
			}
			wantClash(t, named(x), x, data, part, 0, mostNumber)
			found++
			break
		}
	}
	if found < 3 {
		t.Errorf("%d were found", found)
	}
}

func TestClashPastTheEnds(t *testing.T) { // P18.6: one of the two has no byte there
	t.Parallel()
	c := chance(21)
	found := 0
	for _, x := range weakTrees() {
		data := pattern(6)
		_, _, digest := laid(t, x, data)
		for range 2 {
			for _, p := range []struct{ total, from, n uint64 }{
				{12, 6, 1}, {12, 11, mostNumber}, // the message ends ahead of it
				{3, 3, 2}, {3, 0, mostNumber}, {4, 5, 1}, // the part does
				{12, 12, 5}, {3, 9, 1}, {12, mostNumber, mostNumber}, {3, 3, 0}, // both do
			} {
				part, ok := forge(t, &c, x, digest, p.total, p.from, p.n, nil)
				if !ok {
					continue
				}
				_, is := wantClash(t, fmt.Sprintf("%s, a part of %d bytes", named(x), p.total), x, data, part, p.from, p.n)
				if is {
					found++
				}
			}
		}
	}
	if found < 30 {
		t.Errorf("%d were found", found)
	}
}

func TestClashOfFarParts(t *testing.T) { // P18.6: a part that tells a length far above the message's
	t.Parallel()
	c := chance(31)
	found := 0
	for _, k := range kinds {
		for _, x := range []api.Tree{weak(k, 2, 255, 2), dressed(weak(k, 16, 255, 3))} {
			data := pattern(11)
			_, _, digest := laid(t, x, data)
			for _, total := range []uint64{1 << 33, 1 << 40} {
				for _, from := range []uint64{0, 5, 1 << 32, total - 1} {
					part, ok := forge(t, &c, x, digest, total, from, 2, nil)
					if !ok {
						continue
					}
					if _, is := wantClash(t, fmt.Sprintf("%s, a part of %d bytes", named(x), total), x, data, part, from, 2); is {
						found++
					}
				}
			}
		}
	}
	if found == 0 {
		t.Errorf("none was found")
	}
}
