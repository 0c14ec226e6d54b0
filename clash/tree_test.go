package clash

import (
	"bytes"
	"fmt"
	"math"
	"math/rand/v2"
	"testing"

	"quern/api"
	"quern/tree"
)

func TestExamples(t *testing.T) { // the chapter's examples
	x := weak(api.Small, 1, 2, 2, 1)
	a, b, n, e := Search(x, 0, 300)
	if e != api.OK || n > 257 {
		t.Fatalf("Search: %q and %q, %d, error %d", a, b, n, e)
	}
	wantPair(t, "what Search found", x, a, b)
	wantNoPair(t, "the same", x, []byte("a"), []byte("a"), api.ErrSame)
	// Two leaves with one byte as output: the root's calls are alike.
	given := map[string][]byte{}
	for i := range 256 {
		b := []byte{'o', byte(i), 'e'}
		leaf := string(build(t, x, b).outputs[0][1])
		if a, ok := given[leaf]; ok {
			first, second, e := Tree(x, a, b)
			wantCalls(t, "two leaves", first, second, e, build(t, x, a).calls[0][1], build(t, x, b).calls[0][1])
			wantPair(t, "two leaves", x, a, b)
		}
		given[leaf] = b
	}
	if len(given) == 256 {
		t.Errorf("no two leaves have one output")
	}
}

func TestTreesThatMayNotBe(t *testing.T) { // P12.2, P12.5, P2: tree.Hash's error ahead of all
	for _, f := range wrongTrees() {
		_, e := tree.Hash(f.tree, nil)
		if e != f.why {
			t.Errorf("tree.Hash, %s: error %d, want %d", f.what, e, f.why)
		}
		for _, a := range [][]byte{nil, {}, []byte("1"), []byte("22")} {
			for _, b := range [][]byte{nil, []byte("1"), pattern(100)} {
				wantNoPair(t, f.what, f.tree, a, b, f.why)
			}
		}
	}
}

func TestTheSame(t *testing.T) { // P12.2, P12.5, P3: ErrSame
	weakTrees(1, func(x api.Tree) {
		for _, n := range []int{0, 1, 2, 3, 4, 30} {
			a := pattern(n)
			b, _ := roomy(a)
			wantNoPair(t, "the same memory", x, a, a, api.ErrSame)
			wantNoPair(t, "the same bytes", x, a, b, api.ErrSame)
		}
		wantNoPair(t, "nil and nil", x, nil, nil, api.ErrSame)
		wantNoPair(t, "nil and empty", x, nil, []byte{}, api.ErrSame)
		wantNoPair(t, "empty and empty", x, []byte{}, rising(3)[:0], api.ErrSame)
	})
}

func TestUnlikeDigests(t *testing.T) { // P12.2, P12.5: ErrNone
	visit := func(x api.Tree) {
		for _, n := range []int{0, 1, 4, 30} {
			a := pattern(n)
			right := build(t, x, a).digest()
			for i := range 40 {
				b := pattern(i)
				if n > 0 && i%2 == 0 {
					b = bytes.Clone(a)
					b[i%n] ^= byte(i + 1)
				}
				if !bytes.Equal(a, b) && !bytes.Equal(right, build(t, x, b).digest()) {
					wantNoPair(t, describe(x, a, b), x, a, b, api.ErrNone)
				}
			}
		}
	}
	for _, k := range kinds {
		whole := dressed(weak(k, sizesOf(k).most, 2, 255, 3))
		whole.Inner = sizesOf(k).most
		for _, x := range []api.Tree{whole, weak(k, 1, 2, 255, 3), weak(k, 2, 0, 2, 1), dressed(weak(k, 1, 3, 3, 1))} {
			visit(x)
		}
	}
}

// byDigest gathers messages that have one digest, out of many short ones of all lengths up to most.
func byDigest(t testing.TB, x api.Tree, most int) map[string][][]byte {
	t.Helper()
	groups := map[string][][]byte{}
	for i := range 180 {
		m := pattern(i % (most + 1))
		for j, c := range Message(i) {
			if j < len(m) {
				m[len(m)-1-j] ^= c
			}
		}
		digest := string(build(t, x, m).digest())
		fresh := true
		for _, other := range groups[digest] {
			fresh = fresh && !bytes.Equal(m, other)
		}
		if fresh {
			groups[digest] = append(groups[digest], m)
		}
	}
	return groups
}

func TestPairs(t *testing.T) { // P12.2, P12.5, P12.6, G4: two messages with one digest, of one length and of several, the roots in one row and in two
	seen := map[string]int{}
	weakTrees(1, func(x api.Tree) {
		for _, group := range byDigest(t, x, 14) {
			for i := 1; i < len(group); i++ {
				a, b := group[0], group[i]
				where := wantPair(t, describe(x, a, b), x, a, b)
				rows, others := len(build(t, x, a).calls), len(build(t, x, b).calls)
				switch {
				case rows != others:
					seen["roots in two rows"]++
				case where.row == rows-1:
					seen["roots"]++
				default:
					seen["below the roots"]++
				}
				if len(a) == len(b) {
					seen["one length"]++
				}
			}
		}
	})
	for _, what := range []string{"roots in two rows", "roots", "below the roots", "one length"} {
		if seen[what] < 10 {
			t.Errorf("%s: seen %d times", what, seen[what])
		}
	}
}

// twin tells a message that differs from data below one node alone, and whose calls are first unlike at that node: it has other data, and gives the same all the same.
func twin(t testing.TB, x api.Tree, data []byte, row, at int) []byte {
	t.Helper()
	span := int(x.Leaf)
	for range row {
		span *= x.Fanout
	}
	from, to := at*span, min(len(data), (at+1)*span)
	right := build(t, x, data)
	chance := rand.New(rand.NewPCG(uint64(row), uint64(at)))
	for range 1 << 13 {
		other := bytes.Clone(data)
		for j := from; j < to; j++ {
			other[j] = byte(chance.Uint32())
		}
		tried := build(t, x, other)
		if bytes.Equal(tried.outputs[row][at], right.outputs[row][at]) && !bytes.Equal(tried.calls[row][at].Data, right.calls[row][at].Data) {
			return other
		}
	}
	t.Fatalf("%v: no twin of %x at row %d, place %d", x, data, row, at)
	return nil
}

func TestFarBelow(t *testing.T) { // P12.2, P12.5: one digest of many bytes, the first unlike calls in each row below the root, at both of its ends
	for _, k := range kinds {
		for _, x := range []api.Tree{weak(k, 16, 2, 255, 3), dressed(weak(k, sizesOf(k).most, 3, 255, 3)), weak(k, 1, 2, 3, 3), dressed(weak(k, 9, 0, 2, 3)), weak(k, 32, 255, 2, 3)} {
			data := pattern(9*3 - 1)
			right := build(t, x, data)
			for row := range len(right.calls) - 1 {
				for _, at := range []int{0, len(right.calls[row]) - 1} {
					if row > 0 && len(right.calls[row][at].Data) == 1 {
						continue // one byte may have no twin
					}
					other := twin(t, x, data, row, at)
					where := wantPair(t, describe(x, data, other), x, data, other)
					if where.row != row || where.at != uint64(at) {
						t.Errorf("%s: row %d, place %d, want %d and %d", describe(x, data, other), where.row, where.at, row, at)
					}
				}
			}
		}
	}
}

func TestSeveralClashes(t *testing.T) { // P12.2: the higher level comes first, wherever it lies in it; in one level the lesser place
	for _, k := range kinds {
		x := weak(k, 20, 2, 255, 2)
		data := pattern(16) // rows of 8, 4, 2, 1
		place := func(what string, other []byte, row int, at uint64) {
			t.Helper()
			if where := wantPair(t, what, x, data, other); where.row != row || where.at != at {
				t.Errorf("%s: row %d, place %d, want %d and %d", what, where.row, where.at, row, at)
			}
		}
		low := twin(t, x, data, 0, 1)
		place("one leaf", low, 0, 1)
		place("two leaves", twin(t, x, low, 0, 6), 0, 1)
		both := twin(t, x, low, 1, 2)
		place("a leaf, and a node above behind it", both, 1, 2)
		place("a leaf, and two nodes above", twin(t, x, both, 1, 1), 1, 1)
		place("a node two rows above, too", twin(t, x, both, 2, 1), 2, 1)
		// The first message of a pair may be any: what two twins have in common is alike.
		if where := wantPair(t, "two twins", x, low, both); where.row != 1 || where.at != 2 {
			t.Errorf("two twins: row %d, place %d", where.row, where.at)
		}
	}
}

func TestUnlikeNumbersOfLeaves(t *testing.T) { // P12.2: roots that are alike over rows of unlike lengths: the unlike calls lie below
	for _, c := range []struct {
		depth int
		leaf  uint32
		head  string
		ends  [2]string // of the two messages, behind a byte that is tried
		row   int
	}{
		{255, 1, "qr", [2]string{"", "z"}, 1},     // of three leaves and four, over two nodes each
		{255, 4, "123456", [2]string{"", "z"}, 0}, // of two leaves each, the last one of three bytes and of four
		{2, 2, "123456", [2]string{"", "z"}, 0},   // of four leaves each, the last one full or not
	} {
		for _, k := range kinds {
			x := weak(k, 8, 2, c.depth, c.leaf)
			var lists [2]map[string][]byte
			for i := range lists {
				lists[i] = map[string][]byte{}
				for tried := range 256 {
					m := c.head + string([]byte{byte(tried)}) + c.ends[i]
					lists[i][string(build(t, x, []byte(m)).digest())] = []byte(m)
				}
			}
			found := 0
			for digest, a := range lists[0] {
				b, ok := lists[1][digest]
				if !ok {
					continue
				}
				found++
				last := uint64(len(build(t, x, a).calls[c.row]) - 1)
				if where := wantPair(t, describe(x, a, b), x, a, b); where.row != c.row || where.at != last {
					t.Errorf("%s: row %d, place %d, want %d and %d", describe(x, a, b), where.row, where.at, c.row, last)
				}
			}
			if found < 10 {
				t.Errorf("leaf %d: %d pairs", c.leaf, found)
			}
		}
	}
}

func TestLongerMessages(t *testing.T) { // P12.2: many leaves, in rows of which the last node has one child
	for _, k := range kinds {
		x := dressed(weak(k, 12, 2, 255, 64))
		data := pattern(64*32 + 1)
		nodes := len(build(t, x, data).calls[0])
		for _, leaf := range []int{0, 17, nodes - 2} {
			other := twin(t, x, data, 0, leaf)
			if where := wantPair(t, "many leaves", x, data, other); where.row != 0 || where.at != uint64(leaf) {
				t.Errorf("row %d, place %d, want 0 and %d", where.row, where.at, leaf)
			}
		}
	}
}

func TestGreatLeaves(t *testing.T) { // P12.2: a leaf may be far longer than its message, and no message that can be made is too long for a tree
	for _, k := range kinds {
		x := weak(k, 1, 255, 255, math.MaxUint32)
		groups := map[string][]byte{}
		found := 0
		for i := range 300 {
			m := Message(i)
			digest := string(build(t, x, m).digest())
			if earlier, ok := groups[digest]; ok {
				found++
				wantPair(t, fmt.Sprint("leaves of 2^32 - 1 bytes, ", i), x, earlier, m)
			}
			groups[digest] = m
		}
		if found < 44 {
			t.Errorf("kind %d: %d pairs among 300 messages", k, found)
		}
	}
}

func TestNilAndEmptyOfTrees(t *testing.T) { // P3: an empty message, nil or not, in trees whose lists are nil or empty
	for _, k := range kinds {
		x := weak(k, 1, 2, 2, 4)
		same := x
		same.Key, same.Salt, same.Personal = []byte{}, []byte{}, []byte{}
		digest := build(t, x, nil).digest()
		found := 0
		for i := range 2000 {
			if !bytes.Equal(build(t, x, Message(i)).digest(), digest) {
				continue
			}
			found++
			for _, empty := range [][]byte{nil, {}} {
				wantPair(t, "nil lists", x, empty, Message(i))
				wantPair(t, "empty lists", same, Message(i), empty)
			}
		}
		if found == 0 {
			t.Errorf("kind %d: nothing has the digest of the empty message", k)
		}
	}
}
