package clash

import (
	"bytes"
	"fmt"
	"math"
	"testing"

	"quern/api"
)

func TestMessage(t *testing.T) { // P12.4
	for i, right := range map[int]string{
		0: "0", 1: "1", 9: "9", 10: "10", 42: "42", 1000: "1000", 4096: "4096", 1 << 40: "1099511627776",
		-1: "-1", -7: "-7", -10: "-10", -1000: "-1000",
		math.MaxInt: "9223372036854775807", math.MinInt: "-9223372036854775808", math.MinInt + 1: "-9223372036854775807",
	} {
		if got := Message(i); string(got) != right {
			t.Errorf("Message(%d): %q, want %q", i, got, right)
		}
	}
	seen := map[string]int{}
	for i := -2000; i < 2000; i++ {
		m := string(Message(i))
		if other, ok := seen[m]; ok {
			t.Errorf("%d and %d have one message", i, other)
		}
		seen[m] = i
		if right := fmt.Sprint(i); m != right {
			t.Errorf("Message(%d): %q", i, m)
		}
	}
}

func wantSearch(t *testing.T, what string, tree api.Tree, from, most, earlier, later, n int) {
	t.Helper()
	a, b, count, e := Search(tree, from, most)
	if e != api.OK || string(a) != fmt.Sprint(earlier) || string(b) != fmt.Sprint(later) || count != n {
		t.Errorf("Search, %s: %q, %q, %d, error %d, want %d, %d, %d", what, a, b, count, e, earlier, later, n)
	}
}

func wantNoSearch(t *testing.T, what string, tree api.Tree, from, most int, n int, why api.Errno) {
	t.Helper()
	a, b, count, e := Search(tree, from, most)
	if e != why || len(a) != 0 || len(b) != 0 || count != n {
		t.Errorf("Search, %s, from %d, most %d: %q, %q, %d, error %d, want %d, error %d", what, from, most, a, b, count, e, n, why)
	}
}

func TestSearchOfWrongTrees(t *testing.T) { // P12.4, P2: shape's error ahead of all
	for _, f := range wrongTrees() {
		for _, from := range []int{0, 5, -1, 1<<40 + 1, math.MinInt} {
			for _, most := range []int{0, 1, 300, -1, 4097, math.MaxInt} {
				wantNoSearch(t, f.what, f.tree, from, most, 0, f.why)
			}
		}
	}
}

func TestSearchOfWrongNumbers(t *testing.T) { // P12.4: ErrArg
	for _, k := range kinds {
		for _, x := range []api.Tree{weak(k, 1, 2, 2, 1), dressed(weak(k, 32, 0, 3, 4))} {
			for _, from := range []int{-1, -2, math.MinInt, 1<<40 + 1, 1 << 41, math.MaxInt} {
				for _, most := range []int{0, 1, 300, 4096, -1, 4097} {
					wantNoSearch(t, "from", x, from, most, 0, api.ErrArg)
				}
			}
			for _, most := range []int{-1, -300, math.MinInt, 4097, 1 << 20, math.MaxInt} {
				for _, from := range []int{0, 1, 1 << 40, -1, 1<<40 + 1} {
					wantNoSearch(t, "most", x, from, most, 0, api.ErrArg)
				}
			}
		}
	}
}

func TestSearchOfFew(t *testing.T) { // P12.4: none and one message have no pair, and that is told beside how many were hashed
	for _, k := range kinds {
		for _, x := range []api.Tree{weak(k, 1, 2, 2, 1), dressed(weak(k, 32, 0, 3, 4))} {
			for _, from := range []int{0, 1, 77, 1<<40 - 1, 1 << 40} {
				wantNoSearch(t, "none", x, from, 0, 0, api.ErrNone)
				wantNoSearch(t, "one", x, from, 1, 1, api.ErrNone)
			}
		}
	}
}

func TestSearchOfManyBytes(t *testing.T) { // P12.4: digests of many bytes have no pair
	for _, k := range kinds {
		whole := sizesOf(k).most
		x := weak(k, whole, 2, 2, 16)
		x.Inner = whole
		for _, from := range []int{0, 3, 1 << 40} {
			for _, most := range []int{2, 3, 300, 4095, 4096} {
				wantNoSearch(t, "many bytes", x, from, most, most, api.ErrNone)
			}
		}
		// Nodes that give eight bytes are enough.
		x = dressed(weak(k, 9, 2, 255, 1))
		x.Inner = 8
		wantNoSearch(t, "eight bytes", x, 1<<39, 500, 500, api.ErrNone)
	}
}

// rightSearch tells the first message whose digest is that of one ahead of it, by holding each against all ahead.
func rightSearch(t testing.TB, x api.Tree, from, most int) (earlier, later int, ok bool) {
	t.Helper()
	var digests [][]byte
	for i := range most {
		digest := build(t, x, fmt.Append(nil, from+i)).digest()
		for j, other := range digests {
			if bytes.Equal(digest, other) {
				return from + j, from + i, true
			}
		}
		digests = append(digests, digest)
	}
	return 0, 0, false
}

func TestSearchAgainstWords(t *testing.T) { // P12.4, P12.6: each pair is the first, is there as soon as its later one is hashed, and leads to a clash
	weakTrees(1, func(x api.Tree) {
		for _, from := range []int{0, 8, 95, 123456, 1 << 40} {
			earlier, later, ok := rightSearch(t, x, from, 257)
			if !ok {
				t.Fatalf("%v: no pair among 257 messages", x)
			}
			n := later - from + 1
			what := fmt.Sprintf("%v, from %d", x, from)
			for _, most := range []int{n, n + 1, 257, 300, 4096} {
				wantSearch(t, what, x, from, most, earlier, later, n)
			}
			for _, most := range []int{n - 1, n / 2} {
				wantNoSearch(t, what, x, from, most, most, api.ErrNone)
			}
			wantPair(t, what, x, fmt.Append(nil, earlier), fmt.Append(nil, later))
		}
	})
}

func TestSearchIsTheFirst(t *testing.T) { // P12.4: of several pairs that with the first later message, though an earlier message has a twin too
	for _, c := range []struct {
		k                     api.Kind
		earlier, later, other int
	}{
		{api.Big, 4, 40, 223},   // message 0 meets its digest in 223 alone
		{api.Small, 12, 29, 89}, // in 89
	} {
		x := weak(c.k, 1, 2, 2, 1)
		if !bytes.Equal(build(t, x, []byte("0")).digest(), build(t, x, Message(c.other)).digest()) {
			t.Errorf("kind %d: 0 and %d are no pair", c.k, c.other)
		}
		wantSearch(t, "several pairs", x, 0, 300, c.earlier, c.later, c.later+1)
	}
}

func TestSearchOfOneByteBelow(t *testing.T) { // P12.4: one leaf that gives one byte leaves 256 digests, however long they are
	for _, k := range kinds {
		x := dressed(weak(k, sizesOf(k).most, 2, 255, 100))
		for _, from := range []int{0, 1 << 30} {
			a, b, n, e := Search(x, from, 4096)
			if e != api.OK || n < 2 || n > 257 {
				t.Fatalf("Search: %d, error %d", n, e)
			}
			if where := wantPair(t, "one leaf", x, a, b); where.row != 0 {
				t.Errorf("row %d", where.row)
			}
		}
	}
}
