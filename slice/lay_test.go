package slice_test

import (
	"bytes"
	"encoding/binary"
	"fmt"
	"math"
	"math/big"
	"testing"

	"quern/api"
	"quern/slice"
	"quern/tree"
)

// example tells the chapter's tree, its message's digest and its laid form.
func example(t testing.TB) (x api.Tree, digest, form []byte) {
	t.Helper()
	x = plan()
	digest, e := tree.Hash(x, []byte("abcde"))
	wantErrno(t, "tree.Hash", e, api.OK)
	form, e = slice.Lay(x, []byte("abcde"))
	wantErrno(t, "Lay", e, api.OK)
	if len(form) != 53 {
		t.Fatalf("Lay: %d bytes, want 53", len(form))
	}
	return x, digest, form
}

func TestExampleLaid(t *testing.T) { // the chapter's examples
	x, digest, form := example(t)
	rows, e := tree.Rows(x, []byte("abcde"))
	wantErrno(t, "tree.Rows", e, api.OK)
	right := bytes.Join([][]byte{
		{5, 0, 0, 0, 0, 0, 0, 0},
		rows[1][0], rows[1][1],
		rows[0][0], rows[0][1], []byte("ab"), []byte("cd"),
		rows[0][2], []byte("e"),
	}, nil)
	wantBytes(t, "Lay", form, e, right)
	n, e := slice.Length(x, 5)
	if n != 53 || e != api.OK {
		t.Errorf("Length: %d, error %d, want 53", n, e)
	}
	wantRead(t, "abcde", x, digest, form, []byte("abcde"), 0, api.OK)
}

func TestExamplePart(t *testing.T) {
	x, digest, form := example(t)
	right := bytes.Join([][]byte{form[:8], form[8:24], form[44:52], form[52:]}, nil)
	if len(right) != 33 {
		t.Fatalf("%d bytes", len(right))
	}
	for _, n := range []uint64{0, 1, 7, mostNumber} {
		for _, from := range []uint64{4, 5, 9, mostNumber} {
			wantPart(t, "abcde", x, form, from, n, right, 0, api.OK)
			var data []byte
			if from == 4 && n > 0 {
				data = []byte("e")
			}
			wantReadPart(t, "abcde", x, digest, right, from, n, data, 5, 0, api.OK)
		}
	}
}

func TestLay(t *testing.T) { // P18.1: the laid form, held against one that is laid down from the leaves up; and its length
	for _, x := range trees(1, 3) {
		for _, n := range lengths(x) {
			what := fmt.Sprintf("%s, %d bytes", named(x), n)
			right, _, digest := laid(t, x, pattern(n))
			got, e := slice.Lay(x, pattern(n))
			wantBytes(t, "Lay, "+what, got, e, right)
			length, e := slice.Length(x, uint64(n))
			if length != uint64(len(right)) || e != api.OK {
				t.Errorf("Length, %s: %d, error %d, want %d", what, length, e, len(right))
			}
			whole, e := tree.Hash(x, pattern(n))
			wantBytes(t, "tree.Hash, "+what, whole, e, digest)
		}
	}
}

func TestLayOfManyLeaves(t *testing.T) { // P18.1: rows of more nodes than one byte counts, and greater leaves
	for _, k := range kinds {
		for _, x := range []api.Tree{grown(k, 255, 255, 1), grown(k, 2, 255, 1), grown(k, 0, 2, 1), grown(k, 16, 3, 5), grown(k, 3, 255, 200), bare(k, 2, 255, math.MaxUint32)} {
			for _, n := range []int{255, 256, 257, 600} {
				right, _, digest := laid(t, x, pattern(n))
				got, e := slice.Lay(x, pattern(n))
				wantBytes(t, "Lay, "+named(x), got, e, right)
				wantRead(t, named(x), x, digest, right, pattern(n), 0, api.OK)
			}
		}
	}
}

func TestNoneIsEmpty(t *testing.T) { // P3
	for _, x := range trees(3) {
		right, _, digest := laid(t, x, nil)
		for _, data := range [][]byte{nil, {}, make([]byte, 0, 9)} {
			got, e := slice.Lay(x, data)
			wantBytes(t, "Lay, "+named(x), got, e, right)
		}
		wantRead(t, named(x), x, digest, right, nil, 0, api.OK)
		for _, form := range [][]byte{nil, {}} {
			wantRead(t, "no byte, "+named(x), x, digest, form, nil, 0, api.ErrShort)
			wantPart(t, "no byte, "+named(x), x, form, 0, 1, nil, 0, api.ErrShort)
			wantReadPart(t, "no byte, "+named(x), x, digest, form, 0, 1, nil, 0, 0, api.ErrShort)
		}
	}
	x := bare(api.Big, 2, 255, 4)
	empty := x
	empty.Key, empty.Salt, empty.Personal = []byte{}, []byte{}, []byte{}
	first, _ := slice.Lay(x, pattern(30))
	second, e := slice.Lay(empty, pattern(30))
	wantBytes(t, "empty lists of a tree", second, e, first)
}

// rightLength tells how many bytes a laid form has, row by row, in numbers without a bound.
func rightLength(x api.Tree, total uint64) *big.Int {
	sum := new(big.Int).SetUint64(total)
	sum.Add(sum, big.NewInt(8))
	rows := lieOf(x, total).rows
	for _, n := range rows[:len(rows)-1] {
		of := new(big.Int).SetUint64(n)
		sum.Add(sum, of.Mul(of, big.NewInt(int64(x.Inner))))
	}
	return sum
}

// edgeTrees have each field at its lower end, and at its upper one.
func edgeTrees() []api.Tree {
	var list []api.Tree
	for _, k := range kinds {
		z := sizesOf(k)
		list = append(list, weak(k, 0, 2, 1), weak(k, 2, 2, 1))
		for _, fanout := range []int{0, 2, 3, 254, 255} {
			for _, depth := range []int{2, 3, 4, 255} {
				for _, leaf := range []uint32{1, 2, 1 << 16, math.MaxUint32} {
					list = append(list, api.Tree{
						Kind: k, Digest: z.most, Fanout: fanout, Depth: depth, Leaf: leaf, Inner: z.most,
						Key: rising(z.most), Salt: rising(z.salt), Personal: rising(z.salt),
					})
				}
			}
		}
	}
	return list
}

func TestLength(t *testing.T) { // P18.1: totals up to MaxTotal, and those above
	for _, x := range edgeTrees() {
		leaf := uint64(x.Leaf)
		for _, total := range []uint64{0, 1, leaf - 1, leaf, leaf + 1, 2 * leaf, 255 * leaf, 255*leaf + 1, 1<<20 + 7, 1<<32 - 1, 1 << 32, 1<<40 - 1, 1 << 40} {
			if total > 1<<40 {
				continue
			}
			right := rightLength(x, total)
			n, e := slice.Length(x, total)
			if e != api.OK || right.Cmp(new(big.Int).SetUint64(n)) != 0 {
				t.Errorf("Length, %s, %d bytes: %d, error %d, want %d", named(x), total, n, e, right)
			}
		}
		// ErrTotal, however many leaves there are: also where a Small tree could not have so many.
		for _, total := range []uint64{1<<40 + 1, 1 << 41, 1 << 48, 1<<48 + 1, 1 << 49, 1<<49 + 1, 1<<50 + 1, 1 << 63, mostNumber - 1, mostNumber} {
			n, e := slice.Length(x, total)
			if n != 0 || e != api.ErrTotal {
				t.Errorf("Length, %s, %d bytes: %d, error %d, want %d", named(x), total, n, e, api.ErrTotal)
			}
		}
	}
}

func TestLengthTold(t *testing.T) { // P18.1: numbers worked out by hand
	for _, w := range []struct {
		tree         api.Tree
		total, right uint64
	}{
		{plan(), 0, 16},
		{plan(), 1, 17},
		{plan(), 2, 18},
		{plan(), 3, 8 + 16 + 3},
		{plan(), 4, 8 + 16 + 4},
		{plan(), 5, 53},
		{weak(api.Big, 0, 2, 1), 1 << 40, 8 + 2<<40},
		{weak(api.Small, 2, 255, 1), 1 << 40, 8 + 1<<40 + (2<<40 - 2)},
		{weak(api.Big, 2, 3, 1), 1 << 40, 8 + 1<<40 + 1<<40 + 1<<39},
	} {
		n, e := slice.Length(w.tree, w.total)
		if n != w.right || e != api.OK {
			t.Errorf("Length, %s, %d bytes: %d, error %d, want %d", named(w.tree), w.total, n, e, w.right)
		}
	}
}

func TestTreesThatMayNotBe(t *testing.T) { // shape's error ahead of all, of every call
	total := func(n uint64) []byte { return binary.LittleEndian.AppendUint64(nil, n) }
	for _, f := range faults() {
		what := f.what + ", " + named(f.tree)
		for _, data := range [][]byte{nil, pattern(1), pattern(100)} {
			got, e := slice.Lay(f.tree, data)
			if len(got) != 0 || e != f.why {
				t.Errorf("Lay, %s: %x, error %d, want %d", what, got, e, f.why)
			}
		}
		for _, n := range []uint64{0, 5, 1 << 40, 1<<40 + 1, 1<<48 + 1, mostNumber} {
			got, e := slice.Length(f.tree, n)
			if got != 0 || e != f.why {
				t.Errorf("Length, %s: %d, error %d, want %d", what, got, e, f.why)
			}
		}
		for _, form := range [][]byte{nil, pattern(7), total(0), total(5), total(1<<40 + 1), append(total(3), pattern(300)...)} {
			for _, digest := range [][]byte{nil, pattern(32), pattern(65)} {
				wantRead(t, what, f.tree, digest, form, nil, 0, f.why)
				for _, from := range []uint64{0, mostNumber} {
					wantReadPart(t, what, f.tree, digest, form, from, 1, nil, 0, 0, f.why)
					wantPart(t, what, f.tree, form, from, 1, nil, 0, f.why)
					wantNoClash(t, what, f.tree, pattern(9), form, from, 1, f.why)
				}
			}
		}
		for _, digest := range [][]byte{nil, pattern(1), pattern(32), pattern(64), pattern(65)} {
			r, e := slice.New(f.tree, digest)
			if r != nil || e != f.why {
				t.Errorf("New, %s: %v, error %d, want %d", what, r, e, f.why)
			}
		}
	}
}
