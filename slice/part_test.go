package slice_test

import (
	"bytes"
	"fmt"
	"math"
	"testing"

	"quern/api"
	"quern/slice"
)

// numbers are those at which a part of such a message turns, and the greatest.
func numbers(x api.Tree, total int) []uint64 {
	leaf, n := uint64(x.Leaf), uint64(total)
	seen := map[uint64]bool{}
	var list []uint64
	for _, a := range []uint64{0, 1, leaf - 1, leaf, leaf + 1, 2 * leaf, 3*leaf - 1, n / 2, n - 1, n, n + 1, 1 << 40, 1<<63 + 1, mostNumber - 1, mostNumber} {
		if !seen[a] {
			seen[a] = true
			list = append(list, a)
		}
	}
	return list
}

// there tells the bytes that data has from from on, n of them, going through them one by one.
func there(data []byte, from, n uint64) []byte {
	var list []byte
	for i, c := range data {
		if uint64(i) >= from && uint64(i)-from < n {
			list = append(list, c)
		}
	}
	return list
}

// parts visits parts of such laid forms, at each number at which they turn.
func parts(t testing.TB, list []api.Tree, visit func(what string, x api.Tree, data, form []byte, part []piece, digest []byte, from, n uint64)) {
	t.Helper()
	forms(t, list, func(what string, x api.Tree, data, form []byte, pieces []piece, digest []byte) {
		for _, from := range numbers(x, len(data)) {
			for _, n := range numbers(x, len(data)) {
				part := kept(x, uint64(len(data)), pieces, from, n)
				visit(fmt.Sprintf("%s, from %d, %d", what, from, n), x, data, form, part, digest, from, n)
			}
		}
	})
}

func TestPart(t *testing.T) { // P18.3, P18.4, P18.7: parts of each kind, and their bytes
	t.Parallel()
	parts(t, append(trees(3), fewTrees()...), func(what string, x api.Tree, data, form []byte, part []piece, digest []byte, from, n uint64) {
		right := join(uint64(len(data)), part)
		wantPart(t, what, x, form, from, n, right, 0, api.OK)
		wantReadPart(t, what, x, digest, right, from, n, there(data, from, n), uint64(len(data)), 0, api.OK)
	})
}

func TestPartsOfOneByte(t *testing.T) { // P18.3, P18.4: each byte by itself, and each row of bytes
	for _, x := range fewTrees() {
		data := pattern(13)
		form, pieces, digest := laid(t, x, data)
		for from := range uint64(15) {
			for n := range uint64(16) {
				what := fmt.Sprintf("%s, from %d, %d", named(x), from, n)
				right := join(13, kept(x, 13, pieces, from, n))
				wantPart(t, what, x, form, from, n, right, 0, api.OK)
				wantReadPart(t, what, x, digest, right, from, n, there(data, from, n), 13, 0, api.OK)
			}
		}
	}
}

func TestPartOfNoByte(t *testing.T) { // P18.3: the leaf in which from lies, or the last one
	x := bare(api.Big, 2, 255, 4)
	form, pieces, digest := laid(t, x, pattern(20)) // five full leaves
	leafOf := func(from uint64) uint64 {
		part, _, e := slice.Part(x, form, from, 0)
		wantReadPart(t, "no byte", x, digest, part, from, 0, nil, 20, 0, e)
		for _, p := range pieces {
			if p.row == 0 && bytes.Equal(part[len(part)-4:], p.data) {
				return p.at
			}
		}
		t.Fatalf("from %d: %x, error %d", from, part, e)
		return 0
	}
	for from, leaf := range map[uint64]uint64{0: 0, 3: 0, 4: 1, 7: 1, 8: 2, 15: 3, 16: 4, 19: 4, 20: 4, 21: 4, 1 << 50: 4, mostNumber: 4} {
		if got := leafOf(from); got != leaf {
			t.Errorf("from %d: leaf %d, want %d", from, got, leaf)
		}
	}
}

func TestPartOfTheWhole(t *testing.T) { // P18.3, P18.4: the whole message's part is the laid form
	forms(t, trees(3), func(what string, x api.Tree, data, form []byte, _ []piece, digest []byte) {
		for _, n := range []uint64{uint64(len(data)), uint64(len(data)) + 1, mostNumber} {
			wantPart(t, what, x, form, 0, n, form, 0, api.OK)
			wantReadPart(t, what, x, digest, form, 0, n, data, uint64(len(data)), 0, api.OK)
		}
	})
}

func TestPartLooksAtLengthsAlone(t *testing.T) { // P18.3: what the pieces are is not looked at
	forms(t, trees(3), func(what string, x api.Tree, data, form []byte, pieces []piece, digest []byte) {
		other := bytes.Clone(form)
		for i := range other[8:] {
			other[8+i] = byte(7*i) ^ other[8+i]
		}
		for _, from := range numbers(x, len(data)) {
			wantPartAsHeard(t, what+", all other bytes", x, other, from, 3)
			wantPartAsHeard(t, what+", more behind", x, append(bytes.Clone(other), 0), from, 3)
		}
	})
}

func TestPartOfCutForms(t *testing.T) { // P18.3: all of the laid form has to be there, whatever the part
	forms(t, fewTrees(), func(what string, x api.Tree, data, form []byte, _ []piece, _ []byte) {
		for n := range form {
			for _, from := range []uint64{0, uint64(len(data)) / 2, mostNumber} {
				wantPartAsHeard(t, fmt.Sprintf("%s, cut at %d", what, n), x, form[:n], from, 1)
			}
		}
		for _, more := range [][]byte{{0}, form} {
			wantPart(t, what+", more behind", x, append(bytes.Clone(form), more...), 0, 1, nil, len(form), api.ErrMore)
		}
	})
}

func TestReadPartCut(t *testing.T) { // P18.4: cut off at every place, and with bytes behind the end
	t.Parallel()
	parts(t, fewTrees(), func(what string, x api.Tree, data, form []byte, part []piece, digest []byte, from, n uint64) {
		if len(data) > 8 || n > 3 && n != mostNumber || from > 5 && from != mostNumber {
			return
		}
		whole := join(uint64(len(data)), part)
		for size := range whole {
			h := wantAsHeard(t, fmt.Sprintf("%s, cut at %d", what, size), x, digest, whole[:size], from, n)
			if h.why != api.ErrShort {
				t.Errorf("%s, cut at %d: error %d", what, size, h.why)
			}
		}
		for _, more := range [][]byte{{0}, whole} {
			wantReadPart(t, what+", more behind", x, digest, append(bytes.Clone(whole), more...), from, n, nil, 0, len(whole), api.ErrMore)
		}
	})
}

func TestReadPartTurned(t *testing.T) { // P18.4, P18.7: each single bit turned
	for _, x := range fewTrees() {
		for _, total := range []int{0, 1, 7} {
			form, _, digest := laid(t, x, pattern(total))
			for _, p := range [][2]uint64{{0, 1}, {2, 3}, {6, 1}, {9, 0}} {
				part, _, e := slice.Part(x, form, p[0], p[1])
				wantErrno(t, "Part", e, api.OK)
				for i := range 8 * len(part) {
					turned := bytes.Clone(part)
					turned[i/8] ^= 1 << (i % 8)
					wantAsHeard(t, fmt.Sprintf("%s, %d bytes, from %d, %d, bit %d turned", named(x), total, p[0], p[1], i), x, digest, turned, p[0], p[1])
				}
			}
		}
	}
}

func TestReadPartOfAnother(t *testing.T) { // P18.4: a part that is read as another one than it was made as
	t.Parallel()
	taken := 0
	for _, x := range fewTrees() {
		for _, total := range []int{0, 5, 11} {
			form, _, digest := laid(t, x, pattern(total))
			for from := range uint64(14) {
				for _, n := range []uint64{0, 1, 2, 5, mostNumber} {
					part, _, e := slice.Part(x, form, from, n)
					wantErrno(t, "Part", e, api.OK)
					for other := range uint64(14) {
						for _, m := range []uint64{0, 2, mostNumber} {
							what := fmt.Sprintf("%s, %d bytes, made from %d, %d", named(x), total, from, n)
							if h := wantAsHeard(t, what, x, digest, part, other, m); h.why == api.OK {
								taken++
							}
						}
					}
				}
			}
		}
	}
	if taken == 0 {
		t.Errorf("none was taken")
	}
}

func TestReadPartTotals(t *testing.T) { // P18.4: what the eight bytes say is told, proved or not
	x := bare(api.Small, 2, 255, 4)
	form, _, digest := laid(t, x, pattern(18)) // five leaves, the last one of two bytes
	part, _, e := slice.Part(x, form, 3, 7)
	wantErrno(t, "Part", e, api.OK)
	for total := range uint64(40) {
		changed := bytes.Clone(part)
		changed[0] = byte(total)
		// As long as the last leaf is not there any length will do that has as many rows, and nodes on this way that lie alike.
		h := wantAsHeard(t, fmt.Sprintf("18 bytes told as %d", total), x, digest, changed, 3, 7)
		if is := total >= 17 && total <= 32; is != (h.why == api.OK) {
			t.Errorf("18 bytes told as %d: error %d", total, h.why)
		}
	}
	last, _, e := slice.Part(x, form, 15, 2)
	wantErrno(t, "Part", e, api.OK)
	for total := range uint64(40) {
		changed := bytes.Clone(last)
		changed[0] = byte(total)
		h := wantAsHeard(t, fmt.Sprintf("18 bytes told as %d, with the last leaf", total), x, digest, changed, 15, 2)
		if (total == 18) != (h.why == api.OK) {
			t.Errorf("18 bytes told as %d, with the last leaf: error %d", total, h.why)
		}
	}
}

// farTotals are lengths of messages that nobody lays down whole.
var farTotals = []uint64{1<<32 - 1, 1 << 32, 1<<32 + 1, 3<<38 + 12345, 1<<40 - 1, 1 << 40}

func TestFarParts(t *testing.T) { // P18.4, Limits: parts of messages of up to MaxTotal bytes, at their beginnings, within them and at their ends
	t.Parallel()
	c := chance(7)
	for _, k := range kinds {
		for _, x := range []api.Tree{grown(k, 2, 255, 1), bare(k, 2, 255, 7), dressed(bare(k, 3, 255, 2)), grown(k, 255, 255, 1), bare(k, 16, 7, 1<<16), bare(k, 254, 5, 256)} {
			for _, total := range farTotals {
				for _, from := range []uint64{0, 1, total/2 - 1, 1<<32 - 2, total - 9, total - 1, total, mostNumber} {
					for _, n := range []uint64{0, 1, 9} {
						wantFar(t, &c, x, total, from, n)
					}
				}
				wantFar(t, &c, x, total, total-9, mostNumber)
				wantFar(t, &c, x, total, total-9, mostNumber-(total-9)+1)
			}
		}
	}
}

// wantFar grows a part with other nodes by chance, and holds what ReadPart answers of it, and of it spoilt.
func wantFar(t *testing.T, c *chance, x api.Tree, total, from, n uint64) {
	t.Helper()
	what := fmt.Sprintf("%s, %d bytes", named(x), total)
	part, pieces, digest := grow(t, x, total, from, n, func(row int, at, size uint64) []byte { return c.bytes(int(size)) })
	begin, end := lieOf(x, total).spread(from, n)
	var right []byte
	for _, p := range pieces {
		for i, b := range p.data {
			if place := p.at*uint64(x.Leaf) + uint64(i); p.row == 0 && begin <= place && place < end {
				right = append(right, b)
			}
		}
	}
	wantReadPart(t, what, x, digest, part, from, n, right, total, 0, api.OK)
	i := 8 + c.below(len(part)-8)
	part[i] ^= byte(1 + c.below(255))
	if h := wantAsHeard(t, what+", spoilt", x, digest, part, from, n); h.why == api.OK && x.Inner > 4 {
		t.Errorf("%s: a byte turned at %d is taken", what, i)
	}
}

func TestPartOfALongLeaf(t *testing.T) { // P18.3, P18.4: a leaf that is longer than its message
	for _, k := range kinds {
		x := bare(k, 2, 255, math.MaxUint32)
		form, _, digest := laid(t, x, pattern(300))
		for _, from := range []uint64{0, 1, 299, 300, 1 << 32, mostNumber} {
			for _, n := range []uint64{0, 1, 299, 300, mostNumber} {
				wantPart(t, "a long leaf", x, form, from, n, form, 0, api.OK)
				wantReadPart(t, "a long leaf", x, digest, form, from, n, there(pattern(300), from, n), 300, 0, api.OK)
			}
		}
	}
}
