package word

import (
	"bytes"
	"encoding/binary"
	"math"
	"math/big"
	"math/rand"
	"testing"

	"quern/api"
)

const spare = 9 // bytes of the room that roomy leaves behind a list's end

// roomy lays b into a longer list, with marks in the room behind its end; still tells whether it is all as it was.
func roomy(b []byte) (list []byte, still func() bool) {
	whole := make([]byte, len(b)+spare)
	copy(whole, b)
	for i := len(b); i < len(whole); i++ {
		whole[i] = 0xa5
	}
	before := bytes.Clone(whole)
	return whole[:len(b)], func() bool { return bytes.Equal(whole, before) }
}

func someBytes(r *rand.Rand, n int) []byte {
	b := make([]byte, n)
	r.Read(b)
	return b
}

func words64() []uint64 {
	return []uint64{0, 1, 2, 0x0807060504030201, 0x8000000000000001, 0xfedcba9876543210, 1 << 31, 1 << 32, 1<<63 - 1, 1 << 63, math.MaxUint64}
}

func TestLoadLowestByteFirst(t *testing.T) { // W1
	b := []byte{1, 2, 3, 4, 5, 6, 7, 8, 9, 0xfa, 0xfb, 0xfc}
	for at := 0; at+4 <= len(b); at++ {
		if w, e := Load32(b, at); w != binary.LittleEndian.Uint32(b[at:]) || e != api.OK {
			t.Errorf("Load32 at %d: %x %d", at, w, e)
		}
	}
	for at := 0; at+8 <= len(b); at++ {
		if w, e := Load64(b, at); w != binary.LittleEndian.Uint64(b[at:]) || e != api.OK {
			t.Errorf("Load64 at %d: %x %d", at, w, e)
		}
	}
	if w, e := Load32([]byte{1, 2, 3, 4}, 0); w != 0x04030201 || e != api.OK {
		t.Errorf("Load32 of the example: %x %d", w, e)
	}
	if w, e := Load64([]byte{0, 0, 0, 0, 0, 0, 0, 0x80}, 0); w != 1<<63 || e != api.OK {
		t.Errorf("Load64 of the highest bit: %x %d", w, e)
	}
}

func TestLoadRefuses(t *testing.T) { // W1
	twelve := make([]byte, 12)
	for i := range twelve {
		twelve[i] = 0xff
	}
	// The room behind the end is no part of the list.
	short, _ := roomy([]byte{1, 2, 3})
	cases := []struct {
		b        []byte
		at       int
		e32, e64 api.Errno
	}{
		{twelve, -1, api.ErrArg, api.ErrArg},
		{twelve, math.MinInt, api.ErrArg, api.ErrArg},
		{nil, -1, api.ErrArg, api.ErrArg},
		{twelve, 5, api.OK, api.ErrShort},
		{twelve, 9, api.ErrShort, api.ErrShort},
		{twelve, 12, api.ErrShort, api.ErrShort},
		{twelve, 13, api.ErrShort, api.ErrShort},
		{twelve, math.MaxInt, api.ErrShort, api.ErrShort},
		{twelve, math.MaxInt - 3, api.ErrShort, api.ErrShort},
		{twelve, math.MaxInt - 7, api.ErrShort, api.ErrShort},
		{nil, 0, api.ErrShort, api.ErrShort},
		{[]byte{}, 0, api.ErrShort, api.ErrShort},
		{nil, math.MaxInt, api.ErrShort, api.ErrShort},
		{short, 0, api.ErrShort, api.ErrShort},
	}
	for _, c := range cases {
		if w, e := Load32(c.b, c.at); e != c.e32 || e != api.OK && w != 0 {
			t.Errorf("Load32 of %d bytes at %d: %x %d", len(c.b), c.at, w, e)
		}
		if w, e := Load64(c.b, c.at); e != c.e64 || e != api.OK && w != 0 {
			t.Errorf("Load64 of %d bytes at %d: %x %d", len(c.b), c.at, w, e)
		}
	}
}

func TestStoreLowestByteFirst(t *testing.T) { // W1
	if b := Store32(0x04030201); !bytes.Equal(b, []byte{1, 2, 3, 4}) {
		t.Errorf("Store32: %x", b)
	}
	if b := Store64(0xf807060504030201); !bytes.Equal(b, []byte{1, 2, 3, 4, 5, 6, 7, 0xf8}) {
		t.Errorf("Store64: %x", b)
	}
	for _, w := range words64() {
		if b := Store32(uint32(w)); !bytes.Equal(b, binary.LittleEndian.AppendUint32(nil, uint32(w))) {
			t.Errorf("Store32(%x): %x", uint32(w), b)
		}
		if b := Store64(w); !bytes.Equal(b, binary.LittleEndian.AppendUint64(nil, w)) {
			t.Errorf("Store64(%x): %x", w, b)
		}
	}
}

func TestStoreIsNewMemory(t *testing.T) { // P4
	first, second := Store32(7), Store32(7)
	first[0] = 9
	if second[0] != 7 || Store32(7)[0] != 7 {
		t.Error("Store32: two answers share memory")
	}
	long, other := Store64(7), Store64(7)
	long[0] = 9
	if other[0] != 7 || Store64(7)[0] != 7 {
		t.Error("Store64: two answers share memory")
	}
}

// slowTurn turns bit by bit, by the rest that big numbers tell.
func slowTurn(w uint64, n, size int) uint64 {
	rest := int(new(big.Int).Mod(big.NewInt(int64(n)), big.NewInt(int64(size))).Int64())
	for range rest {
		w = w>>1 | (w&1)<<(size-1)
	}
	return w
}

func turns() []int {
	list := []int{math.MinInt, math.MinInt + 1, math.MinInt + 33, math.MaxInt, math.MaxInt - 1, math.MaxInt - 40, 1 << 32, -1 << 32, 1<<32 + 5, -(1<<32 + 5), 1000, -1000}
	for n := -130; n <= 130; n++ {
		list = append(list, n)
	}
	return list
}

func TestTurn(t *testing.T) { // W2
	if w := Turn32(1, 1); w != 0x80000000 {
		t.Errorf("Turn32(1, 1) = %x", w)
	}
	if w := Turn32(1, -1); w != 2 {
		t.Errorf("Turn32(1, -1) = %x", w)
	}
	if w := Turn64(1, 64); w != 1 {
		t.Errorf("Turn64(1, 64) = %x", w)
	}
	if w := Turn64(1, 1); w != 1<<63 {
		t.Errorf("Turn64(1, 1) = %x", w)
	}
	for _, w := range words64() {
		for _, n := range turns() {
			if got, want := Turn32(uint32(w), n), uint32(slowTurn(w&math.MaxUint32, n, 32)); got != want {
				t.Errorf("Turn32(%x, %d) = %x, not %x", uint32(w), n, got, want)
			}
			if got, want := Turn64(w, n), slowTurn(w, n, 64); got != want {
				t.Errorf("Turn64(%x, %d) = %x, not %x", w, n, got, want)
			}
		}
	}
}

func bigCount(c api.Count) *big.Int {
	n := new(big.Int).SetUint64(c.Hi)
	n.Lsh(n, 64)
	return n.Add(n, new(big.Int).SetUint64(c.Lo))
}

func TestAdd(t *testing.T) { // W3
	const most = math.MaxUint64
	cases := []struct {
		c     api.Count
		n     uint64
		sum   api.Count
		wraps bool
	}{
		{api.Count{}, 0, api.Count{}, false},
		{api.Count{Lo: 5, Hi: 6}, 7, api.Count{Lo: 12, Hi: 6}, false},
		{api.Count{Lo: most}, 1, api.Count{Hi: 1}, false},
		{api.Count{Lo: most}, most, api.Count{Lo: most - 1, Hi: 1}, false},
		{api.Count{Lo: most, Hi: most}, 0, api.Count{Lo: most, Hi: most}, false},
		{api.Count{Lo: most, Hi: most}, 1, api.Count{}, true},
		{api.Count{Lo: most, Hi: most}, most, api.Count{Lo: most - 1}, true},
		{api.Count{Lo: most - 1, Hi: most}, 1, api.Count{Lo: most, Hi: most}, false},
		{api.Count{Lo: 1, Hi: most}, most, api.Count{}, true},
		{api.Count{Hi: most}, most, api.Count{Lo: most, Hi: most}, false},
	}
	for _, c := range cases {
		if sum, wraps := Add(c.c, c.n); sum != c.sum || wraps != c.wraps {
			t.Errorf("Add(%v, %d) = %v, %v", c.c, c.n, sum, wraps)
		}
	}
	edge := new(big.Int).Lsh(big.NewInt(1), 128)
	for _, lo := range words64() {
		for _, hi := range words64() {
			for _, n := range words64() {
				c := api.Count{Lo: lo, Hi: hi}
				want := bigCount(c)
				want.Add(want, new(big.Int).SetUint64(n))
				over := want.Cmp(edge) >= 0
				want.Mod(want, edge)
				if sum, wraps := Add(c, n); bigCount(sum).Cmp(want) != 0 || wraps != over {
					t.Errorf("Add(%v, %d) = %v, %v", c, n, sum, wraps)
				}
			}
		}
	}
}

func TestCut(t *testing.T) { // W4
	cases := []struct {
		b      string
		n      int
		pieces []string
	}{
		{"abcde", 2, []string{"ab", "cd", "e"}},
		{"abcdef", 2, []string{"ab", "cd", "ef"}},
		{"abc", 1, []string{"a", "b", "c"}},
		{"abc", 2, []string{"ab", "c"}},
		{"abc", 3, []string{"abc"}},
		{"abc", 4, []string{"abc"}},
		{"abc", math.MaxInt, []string{"abc"}},
		{"", 1, nil},
		{"", 5, nil},
		{"", math.MaxInt, nil},
	}
	for _, c := range cases {
		pieces, e := Cut([]byte(c.b), c.n)
		if e != api.OK || len(pieces) != len(c.pieces) {
			t.Errorf("Cut(%q, %d): %q %d", c.b, c.n, pieces, e)
			continue
		}
		for i := range pieces {
			if string(pieces[i]) != c.pieces[i] {
				t.Errorf("Cut(%q, %d): piece %d is %q", c.b, c.n, i, pieces[i])
			}
		}
	}
	if pieces, e := Cut(nil, 3); len(pieces) != 0 || e != api.OK {
		t.Errorf("Cut(nil, 3): %q %d", pieces, e)
	}
}

func TestCutRefuses(t *testing.T) { // W4
	for _, n := range []int{0, -1, -64, math.MinInt} {
		for _, b := range [][]byte{nil, {}, []byte("abc")} {
			if pieces, e := Cut(b, n); e != api.ErrArg || len(pieces) != 0 {
				t.Errorf("Cut(%q, %d): %q %d", b, n, pieces, e)
			}
		}
	}
}

func TestCutIsNewMemory(t *testing.T) { // P4
	b, still := roomy([]byte("abcdefg"))
	pieces, _ := Cut(b, 3)
	for i, p := range pieces {
		for j := range p {
			p[j] = '!' + byte(i)
		}
	}
	for _, p := range pieces {
		for j := len(p); j < cap(p); j++ {
			p[:cap(p)][j] = '?'
		}
		_ = append(p, '?')
	}
	if !still() {
		t.Error("a piece shares memory with what was cut")
	}
	if got := string(bytes.Join(pieces, nil)); got != "!!!\"\"\"#" {
		t.Errorf("a piece reaches into another one: %q", got)
	}
	b[0] = 'x'
	if pieces[0][0] != '!' {
		t.Error("what was cut reaches into a piece")
	}
}

func TestSame(t *testing.T) { // W4
	cases := []struct {
		a, b []byte
		same bool
	}{
		{nil, nil, true},
		{nil, []byte{}, true},
		{[]byte{}, nil, true},
		{[]byte{}, []byte{}, true},
		{nil, []byte{0}, false},
		{[]byte{0}, nil, false},
		{[]byte{}, []byte{0}, false},
		{[]byte("abc"), []byte("abc"), true},
		{[]byte("abc"), []byte("abd"), false},
		{[]byte("abc"), []byte("bbc"), false},
		{[]byte("abc"), []byte("aBc"), false},
		{[]byte("abc"), []byte("ab"), false},
		{[]byte("ab"), []byte("abc"), false},
		{[]byte{1, 0}, []byte{1}, false},
		{[]byte{1, 2}, []byte{2, 1}, false},
		// Faults that undo one another when they are only added up or laid over one another.
		{[]byte{1, 1}, []byte{0, 0}, false},
		{[]byte{128, 128}, []byte{0, 0}, false},
		{[]byte{1, 255}, []byte{0, 0}, false},
	}
	for _, c := range cases {
		if same := Same(c.a, c.b); same != c.same {
			t.Errorf("Same(%x, %x) = %v", c.a, c.b, same)
		}
	}
	// Every single bit counts.
	a := someBytes(rand.New(rand.NewSource(1)), 33)
	for i := range 8 * len(a) {
		b := bytes.Clone(a)
		b[i/8] ^= 1 << (i % 8)
		if Same(a, b) || Same(b, a) {
			t.Errorf("Same overlooks bit %d", i)
		}
	}
	// The room behind the end doesn't count.
	long, _ := roomy(a)
	if !Same(a, long) || !Same(long, a) {
		t.Error("Same looks behind the end")
	}
}

func TestArgumentsStay(t *testing.T) { // P4
	b, still := roomy([]byte{1, 2, 3, 4, 5, 6, 7, 8, 9, 10, 255})
	other, otherStill := roomy([]byte{1, 2, 3, 4, 5, 6, 7, 8, 9, 10, 254})
	Load32(b, 2)
	Load64(b, 2)
	Cut(b, 4)
	Same(b, other)
	Hex(b)
	Base64(b)
	if !still() || !otherStill() {
		t.Error("an argument, or the room behind it, was changed")
	}
}

func TestThereAndBackWords(t *testing.T) { // W7
	for _, w := range words64() {
		if got, e := Load64(Store64(w), 0); got != w || e != api.OK {
			t.Errorf("Load64(Store64(%x)) = %x, %d", w, got, e)
		}
		if got, e := Load32(Store32(uint32(w)), 0); got != uint32(w) || e != api.OK {
			t.Errorf("Load32(Store32(%x)) = %x, %d", uint32(w), got, e)
		}
		for _, n := range turns() {
			if got := Turn64(Turn64(w, n), -n); got != w {
				t.Errorf("Turn64 of %x by %d and back: %x", w, n, got)
			}
			if got := Turn32(Turn32(uint32(w), n), -n); got != uint32(w) {
				t.Errorf("Turn32 of %x by %d and back: %x", uint32(w), n, got)
			}
		}
	}
}

func TestAddInEitherOrder(t *testing.T) { // W7
	for _, lo := range words64() {
		for _, hi := range []uint64{0, 1, math.MaxUint64 - 1, math.MaxUint64} {
			for _, n := range words64() {
				for _, m := range words64() {
					c := api.Count{Lo: lo, Hi: hi}
					first, _ := Add(c, n)
					first, _ = Add(first, m)
					second, _ := Add(c, m)
					second, _ = Add(second, n)
					if first != second {
						t.Errorf("Add to %v of %d and %d: %v and %v", c, n, m, first, second)
					}
				}
			}
		}
	}
}

func TestPiecesAreTheWhole(t *testing.T) { // W4, W7
	r := rand.New(rand.NewSource(2))
	for length := range 70 {
		b := someBytes(r, length)
		for n := 1; n < 75; n++ {
			pieces, e := Cut(b, n)
			if e != api.OK || len(pieces) != (length+n-1)/n || !bytes.Equal(bytes.Join(pieces, nil), b) {
				t.Fatalf("Cut of %d bytes by %d: %d pieces, %d", length, n, len(pieces), e)
			}
			for i, p := range pieces {
				if len(p) != n && (i+1 < len(pieces) || len(p) == 0 || len(p) > n) {
					t.Fatalf("Cut of %d bytes by %d: piece %d has %d bytes", length, n, i, len(p))
				}
			}
		}
	}
}
