package shape

import (
	"fmt"
	"math"
	"math/big"
	"math/rand"
	"slices"
	"testing"

	"quern/api"
)

func TestExamples(t *testing.T) { // the chapter's examples, and the fourth of the document's ten
	l, e := Rows(plain(2, 255), 0)
	wantRows(t, "Rows of 0 bytes", l, e, []uint64{1, 1})
	n, e := Leaves(plain(2, 255), 9)
	wantNumber(t, "Leaves of 9 bytes", n, e, 3)
	l, e = Rows(plain(2, 255), 9)
	wantRows(t, "Rows of 9 bytes", l, e, []uint64{3, 2, 1})
	s, e := Spot(plain(2, 255), 9, 0, 2)
	wantSpot(t, "Spot of the last leaf", s, e, api.Spot{Row: 0, At: 2, From: 8, To: 9, Last: true})
	s, e = Spot(plain(2, 255), 9, 1, 1)
	wantSpot(t, "Spot above it", s, e, api.Spot{Row: 1, At: 1, From: 2, To: 3, Last: true})
	n, e = Parent(plain(2, 255), 9, 1, 1)
	wantNumber(t, "Parent of that", n, e, 0)
	l, e = Rows(plain(2, 2), 9)
	wantRows(t, "Rows of Depth 2", l, e, []uint64{3, 1})
	l, e = Rows(plain(0, 255), 9)
	wantRows(t, "Rows of Fanout 0", l, e, []uint64{3, 1})
	most, found, e := Most(plain(2, 255), 2)
	wantMost(t, "Most of 2 rows", most, found, e, 8, true)
	most, found, e = Most(plain(2, 255), 3)
	wantMost(t, "Most of 3 rows", most, found, e, 16, true)
	most, found, e = Most(plain(0, 255), 2)
	wantMost(t, "Most of Fanout 0", most, found, e, 0, false)
}

func TestValid(t *testing.T) { // SH1: each field at its ends, and what has no other bound
	for _, k := range kinds {
		z := sizesOf(k)
		may := []func(*api.Tree){
			func(t *api.Tree) {},
			func(t *api.Tree) { t.Digest = 1 },
			func(t *api.Tree) { t.Digest = z.most },
			func(t *api.Tree) { t.Inner = 1 },
			func(t *api.Tree) { t.Inner = z.most },
			func(t *api.Tree) { t.Fanout = 0 },
			func(t *api.Tree) { t.Fanout = 2 },
			func(t *api.Tree) { t.Fanout = 255 },
			func(t *api.Tree) { t.Depth = 2 },
			func(t *api.Tree) { t.Depth = 255 },
			func(t *api.Tree) { t.Leaf = 1 },
			func(t *api.Tree) { t.Leaf = mostLeaf },
			func(t *api.Tree) { t.Key = nil },
			func(t *api.Tree) { t.Key = []byte{} },
			func(t *api.Tree) { t.Key = rising(1) },
			func(t *api.Tree) { t.Key = rising(z.most) },
			func(t *api.Tree) { t.Key = make([]byte, z.most) },
			func(t *api.Tree) { t.Salt = nil },
			func(t *api.Tree) { t.Salt = []byte{} },
			func(t *api.Tree) { t.Salt = make([]byte, z.salt) },
			func(t *api.Tree) { t.Personal = nil },
			func(t *api.Tree) { t.Personal = []byte{} },
			func(t *api.Tree) { t.Personal = make([]byte, z.salt) },
			func(t *api.Tree) { t.Salt, t.Personal = nil, nil },
		}
		for i, change := range may {
			wantErrno(t, fmt.Sprintf("kind %d, change %d", k, i), Valid(with(k, change)), api.OK)
		}
	}
}

func TestValidRefuses(t *testing.T) { // SH1, P1, P2: of several faults the first
	for _, f := range faults() {
		wantErrno(t, fmt.Sprintf("%s %v", f.what, f.tree), Valid(f.tree), f.why)
	}
	wantErrno(t, "no tree", Valid(api.Tree{}), api.ErrArg)
}

func TestFaultsComeFirst(t *testing.T) { // SH1, P2: Valid's error ahead of ErrLong, ErrNone and ErrArg of rows, zero values beside it
	for _, f := range faults() {
		for _, total := range []uint64{0, 9, mostBytes} {
			wantNoRows(t, f.what, f.tree, total, f.why)
			wantNothing(t, f.what, f.tree, total, 0, 0, f.why)
			wantNothing(t, f.what, f.tree, total, -1, mostBytes, f.why)
		}
		for _, rows := range []int{-1, 2, 256} {
			if n, found, e := Most(f.tree, rows); n != 0 || found || e != f.why {
				t.Errorf("Most, %s: %d %v %d", f.what, n, found, e)
			}
		}
	}
}

func TestRows(t *testing.T) { // SH2, SH5: held against rows in numbers without a bound
	for _, tree := range trees() {
		for _, total := range totals(tree) {
			what := fmt.Sprintf("%v, %d bytes", tree, total)
			if refused(tree, total) {
				wantNoRows(t, what, tree, total, api.ErrLong)
				continue
			}
			wantLying(t, what, tree, total)
		}
	}
}

// wantLying asks for leaves, rows and nodes.
func wantLying(t *testing.T, what string, tree api.Tree, total uint64) {
	t.Helper()
	right := fair(tree, total)
	all := uint64(0)
	for _, n := range right {
		all += n
	}
	n, e := Leaves(tree, total)
	wantNumber(t, "Leaves, "+what, n, e, right[0])
	l, e := Rows(tree, total)
	wantRows(t, "Rows, "+what, l, e, right)
	n, e = Nodes(tree, total)
	wantNumber(t, "Nodes, "+what, n, e, all)
	if len(l) < 2 || len(l) > tree.Depth || l[len(l)-1] != 1 {
		t.Errorf("Rows, %s: %d", what, l)
		return
	}
	if slices.Contains(l[1:len(l)-1], 1) {
		t.Errorf("Rows, %s: a row of one node below the root's: %d", what, l)
	}
}

func TestRowsByChance(t *testing.T) { // SH2: likewise, of trees and numbers by chance
	r := rand.New(rand.NewSource(9))
	for range 20000 {
		tree, total := byChance(r)
		what := fmt.Sprintf("%v, %d bytes", tree, total)
		if refused(tree, total) {
			wantNoRows(t, what, tree, total, api.ErrLong)
			continue
		}
		wantLying(t, what, tree, total)
	}
}

func byChance(r *rand.Rand) (api.Tree, uint64) {
	fanout := r.Intn(256)
	if fanout == 1 || r.Intn(3) == 0 {
		fanout = 2 + r.Intn(3)
	}
	leaf := max(1, uint32(r.Uint64())>>r.Intn(32))
	depth := 2 + r.Intn(254)
	if r.Intn(2) == 0 {
		depth = 2 + r.Intn(8)
	}
	return grown(kinds[r.Intn(2)], fanout, depth, leaf), r.Uint64() >> r.Intn(64)
}

func TestToldRows(t *testing.T) { // SH2: rows worked out by hand
	for _, c := range []struct {
		fanout, depth int
		leaf          uint32
		total         uint64
		rows          []uint64
		nodes         uint64
	}{
		{2, 255, 4, 1, []uint64{1, 1}, 2},
		{2, 255, 4, 4, []uint64{1, 1}, 2},
		{2, 255, 4, 5, []uint64{2, 1}, 3},
		{2, 255, 4, 8, []uint64{2, 1}, 3},
		{2, 255, 4, 16, []uint64{4, 2, 1}, 7},
		{2, 255, 4, 17, []uint64{5, 3, 2, 1}, 11},
		{2, 3, 4, 17, []uint64{5, 3, 1}, 9},
		{2, 4, 4, 17, []uint64{5, 3, 2, 1}, 11},
		{2, 4, 4, 33, []uint64{9, 5, 3, 1}, 18},
		{3, 255, 1, 9, []uint64{9, 3, 1}, 13},
		{3, 255, 1, 10, []uint64{10, 4, 2, 1}, 17},
		{255, 255, 1, 255, []uint64{255, 1}, 256},
		{255, 255, 1, 256, []uint64{256, 2, 1}, 259},
		{255, 2, 1, 256, []uint64{256, 1}, 257},
		{0, 2, 1, mostBytes, []uint64{mostBytes, 1}, 0},
		{0, 255, 2, mostBytes, []uint64{1 << 63, 1}, 1<<63 + 1},
		{0, 255, mostLeaf, mostBytes, []uint64{1<<32 + 1, 1}, 1<<32 + 2},
		{2, 3, 1, mostBytes, []uint64{mostBytes, 1 << 63, 1}, 1 << 63},
		{3, 3, 1, mostBytes, []uint64{mostBytes, 6148914691236517205, 1}, 6148914691236517205},
		{255, 4, 1, mostBytes, []uint64{mostBytes, 72340172838076673, 283686952306184, 1}, 72623859790382857},
		{2, 255, mostLeaf, 4294967295, []uint64{1, 1}, 2},
		{2, 255, mostLeaf, 4294967296, []uint64{2, 1}, 3},
	} {
		tree := plain(c.fanout, c.depth)
		tree.Leaf = c.leaf
		what := fmt.Sprint(c)
		l, e := Rows(tree, c.total)
		wantRows(t, "Rows "+what, l, e, c.rows)
		n, e := Leaves(tree, c.total)
		wantNumber(t, "Leaves "+what, n, e, c.rows[0])
		n, e = Nodes(tree, c.total)
		wantNumber(t, "Nodes "+what, n, e, c.nodes)
	}
	var halves []uint64
	for n := 64; n >= 0; n-- {
		halves = append(halves, 1<<n)
	}
	halves[0] = mostBytes
	tree := plain(2, 255)
	tree.Leaf = 1
	l, e := Rows(tree, mostBytes)
	wantRows(t, "Rows of the most bytes in twos", l, e, halves)
	n, e := Nodes(tree, mostBytes)
	wantNumber(t, "Nodes past 2^64", n, e, mostBytes-1)
	tree.Depth = 65
	l, e = Rows(tree, mostBytes)
	wantRows(t, "Rows of the most bytes in just as many", l, e, halves)
	tree.Depth = 64
	l, e = Rows(tree, mostBytes)
	wantRows(t, "Rows of the most bytes in one less", l, e, append(slices.Clone(halves[:63]), 1))
}

func TestSmallIsBounded(t *testing.T) { // SH2, SH3, Limits: 2^48 leaves are as below them, one more is ErrLong
	for _, fanout := range []int{0, 2, 3, 255} {
		for _, depth := range []int{2, 3, 255} {
			for _, leaf := range []uint32{1, 2, 3, 4, 65535} {
				tree := grown(api.Small, fanout, depth, leaf)
				size, what := uint64(leaf), fmt.Sprintf("%d %d %d", fanout, depth, leaf)
				wantFull(t, what, tree, 1<<48*size)
				wantFull(t, what, tree, (1<<48-1)*size+1)
				for _, total := range []uint64{1<<48*size + 1, 1<<48*size + size, mostBytes} {
					wantNoRows(t, what, tree, total, api.ErrLong)
					wantNothing(t, what, tree, total, 0, 0, api.ErrLong)
					wantNothing(t, what, tree, total, -1, mostBytes, api.ErrLong)
				}
				wantLying(t, what, grown(api.Big, fanout, depth, leaf), 1<<48*size+1)
			}
			tree := grown(api.Small, fanout, depth, 65536)
			wantFull(t, "2^48 leaves in the most bytes", tree, mostBytes)
			wantFull(t, "2^48 leaves, one byte of the last", tree, (1<<48-1)<<16+1)
		}
	}
}

// wantFull asks for a tree of just 2^48 leaves.
func wantFull(t *testing.T, what string, tree api.Tree, total uint64) {
	t.Helper()
	const leaves = 1 << 48
	n, e := Leaves(tree, total)
	wantNumber(t, "Leaves "+what, n, e, leaves)
	wantLying(t, what, tree, total)
	s, e := Spot(tree, total, 0, leaves-1)
	wantSpot(t, what, s, e, api.Spot{At: leaves - 1, From: (leaves - 1) * uint64(tree.Leaf), To: total, Last: true})
	wantNothing(t, what, tree, total, 0, leaves, api.ErrNone)
}

// rightMost tells what SH4 has Most answer, in numbers without a bound.
func rightMost(t api.Tree, rows int) (uint64, bool) {
	n := big.NewInt(int64(t.Leaf))
	n.Mul(n, new(big.Int).Exp(big.NewInt(int64(t.Fanout)), big.NewInt(int64(rows-1)), nil))
	if t.Fanout == 0 || rows == t.Depth || n.Cmp(new(big.Int).SetUint64(mostBytes)) >= 0 {
		return 0, false
	}
	return n.Uint64(), true
}

func TestMost(t *testing.T) { // SH4: all rows, with one byte more than told needing a row more
	for _, tree := range trees() {
		for _, rows := range []int{math.MinInt, -1, 0, 1, tree.Depth + 1, 256, math.MaxInt} {
			if n, found, e := Most(tree, rows); n != 0 || found || e != api.ErrArg {
				t.Errorf("Most of %v, %d rows: %d %v %d", tree, rows, n, found, e)
			}
		}
		for rows := 2; rows <= tree.Depth; rows++ {
			right, rightFound := rightMost(tree, rows)
			n, found, e := Most(tree, rows)
			what := fmt.Sprintf("Most of %v, %d rows", tree, rows)
			wantMost(t, what, n, found, e, right, rightFound)
			if !found {
				n = mostBytes
			}
			wantNeeded(t, what, tree, n, rows, found)
		}
	}
}

// wantNeeded asks whether n bytes lie in at most rows rows, and, if that is all, whether one byte more does not. (Small's bound is set aside, by asking of Big.)
func wantNeeded(t *testing.T, what string, tree api.Tree, n uint64, rows int, bounded bool) {
	t.Helper()
	big := grown(api.Big, tree.Fanout, tree.Depth, tree.Leaf)
	if l, e := Rows(big, n); e != api.OK || len(l) > rows || bounded && len(l) != rows {
		t.Errorf("%s: %d bytes lie in %d rows, error %d", what, n, len(l), e)
	}
	if !bounded {
		return
	}
	if l, e := Rows(big, n+1); e != api.OK || len(l) != rows+1 {
		t.Errorf("%s: one byte more lies in %d rows, error %d", what, len(l), e)
	}
}

func TestToldMost(t *testing.T) { // SH4: numbers worked out by hand
	for _, c := range []struct {
		fanout, depth int
		leaf          uint32
		rows          int
		most          uint64
		found         bool
	}{
		{2, 3, 4, 2, 8, true},
		{2, 3, 4, 3, 0, false},
		{2, 2, 4, 2, 0, false},
		{0, 255, 1, 2, 0, false},
		{0, 255, 1, 254, 0, false},
		{2, 255, 1, 64, 1 << 63, true},
		{2, 255, 1, 65, 0, false},
		{2, 64, 1, 64, 0, false},
		{2, 255, mostLeaf, 33, 18446744069414584320, true},
		{2, 255, mostLeaf, 34, 0, false},
		{2, 255, 3, 63, 13835058055282163712, true},
		{2, 255, 3, 64, 0, false},
		{3, 255, 1, 41, 12157665459056928801, true},
		{3, 255, 1, 42, 0, false},
		{255, 255, 1, 2, 255, true},
		{255, 255, 1, 3, 65025, true},
		{255, 255, 1, 9, 17878103347812890625, true},
		{255, 255, 1, 10, 0, false},
		{255, 255, mostLeaf, 5, 18160198149438309375, true},
		{255, 255, mostLeaf, 6, 0, false},
		{255, 255, mostLeaf, 254, 0, false},
	} {
		tree := plain(c.fanout, c.depth)
		tree.Leaf = c.leaf
		n, found, e := Most(tree, c.rows)
		wantMost(t, fmt.Sprint(c), n, found, e, c.most, c.found)
	}
}

func TestMostKnowsNoLeaves(t *testing.T) { // SH4: the bound of Small's leaves aside
	tree := grown(api.Small, 2, 255, 1)
	for rows := 2; rows <= 64; rows++ {
		n, found, e := Most(tree, rows)
		wantMost(t, fmt.Sprint(rows), n, found, e, 1<<(rows-1), true)
	}
}

func TestRowsAreNew(t *testing.T) { // P4: an answer is new memory, with its spare room
	for _, total := range []uint64{0, 9, 1000, mostBytes} {
		tree := plain(2, 255)
		first, e := Rows(tree, total)
		right := fair(tree, total)
		wantRows(t, "Rows", first, e, right)
		second, e := Rows(tree, total)
		whole := first[:cap(first)]
		for i := range whole {
			whole[i] = 77
		}
		wantRows(t, "Rows, asked ahead of spoiling", second, e, right)
		third, e := Rows(tree, total)
		wantRows(t, "Rows, asked behind it", third, e, right)
	}
}
