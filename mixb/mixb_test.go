package mixb

import (
	"bytes"
	"encoding/binary"
	"math"
	"math/big"
	"math/rand"
	"testing"

	"quern/api"
)

// roomy lays b into a longer list, with marks in the room behind its end; still tells whether it is all as it was.
func roomy(b []byte) (list []byte, still func() bool) {
	whole := append(bytes.Clone(b), bytes.Repeat([]byte{0xa5}, 200)...)
	before := bytes.Clone(whole)
	return whole[:len(b)], func() bool { return bytes.Equal(whole, before) }
}

func someBytes(r *rand.Rand, n int) []byte {
	b := make([]byte, n)
	r.Read(b)
	return b
}

// The words of MB1, as the chapter has them.
var wantIV = [8]uint64{
	0x6a09e667f3bcc908, 0xbb67ae8584caa73b, 0x3c6ef372fe94f82b, 0xa54ff53a5f1d36f1,
	0x510e527fade682d1, 0x9b05688c2b3e6c1f, 0x1f83d9abfb41bd6b, 0x5be0cd19137e2179,
}

// The table of MB2, as the chapter has it.
var wantOrders = [10][16]int{
	{0, 1, 2, 3, 4, 5, 6, 7, 8, 9, 10, 11, 12, 13, 14, 15},
	{14, 10, 4, 8, 9, 15, 13, 6, 1, 12, 0, 2, 11, 7, 5, 3},
	{11, 8, 12, 0, 5, 2, 15, 13, 10, 14, 3, 6, 7, 1, 9, 4},
	{7, 9, 3, 1, 13, 12, 11, 14, 2, 6, 5, 10, 4, 0, 15, 8},
	{9, 0, 5, 7, 2, 4, 10, 15, 14, 1, 11, 12, 6, 8, 3, 13},
	{2, 12, 6, 10, 0, 11, 8, 3, 4, 13, 7, 5, 15, 14, 1, 9},
	{12, 5, 1, 15, 14, 13, 4, 10, 0, 7, 6, 3, 9, 2, 8, 11},
	{13, 11, 7, 14, 12, 1, 3, 9, 5, 0, 15, 4, 8, 6, 2, 10},
	{6, 15, 14, 9, 11, 3, 0, 8, 12, 2, 13, 7, 1, 4, 10, 5},
	{10, 2, 8, 4, 7, 6, 1, 5, 15, 11, 9, 14, 3, 12, 13, 0},
}

func TestIV(t *testing.T) { // MB1
	if IV() != wantIV {
		t.Errorf("IV: %x", IV())
	}
	for i, prime := range []int64{2, 3, 5, 7, 11, 13, 17, 19} {
		root := new(big.Int).Lsh(big.NewInt(prime), 128)
		root.Sqrt(root)
		behindPoint := new(big.Int).And(root, new(big.Int).SetUint64(math.MaxUint64)).Uint64()
		if IV()[i] != behindPoint {
			t.Errorf("IV: word %d is %x, the root of %d tells %x", i, IV()[i], prime, behindPoint)
		}
	}
}

func TestSigma(t *testing.T) { // MB2
	for round, want := range wantOrders {
		if got := Sigma(round); got != want {
			t.Errorf("Sigma(%d) = %v", round, got)
		}
	}
}

func TestSigmaByTheRest(t *testing.T) { // MB2
	ends := []int{math.MinInt, math.MinInt + 1, math.MinInt + 8, math.MaxInt - 7, math.MaxInt - 1, math.MaxInt, 1 << 32, -1 << 32}
	for round := -45; round <= 45; round++ {
		ends = append(ends, round)
	}
	for _, round := range ends {
		// The rest that big numbers tell is never below 0.
		rest := new(big.Int).Mod(big.NewInt(int64(round)), big.NewInt(10)).Int64()
		if got := Sigma(round); got != wantOrders[rest] {
			t.Errorf("Sigma(%d) = %v", round, got)
		}
	}
}

func TestSigmaHasEachOnce(t *testing.T) { // MB7
	for round := range 10 {
		var seen [16]int
		for _, place := range Sigma(round) {
			if place < 0 || place > 15 {
				t.Fatalf("Sigma(%d) has %d", round, place)
			}
			seen[place]++
		}
		for place, often := range seen {
			if often != 1 {
				t.Errorf("Sigma(%d) has %d %d times", round, place, often)
			}
		}
	}
}

func TestWords(t *testing.T) { // MB3
	r := rand.New(rand.NewSource(31))
	for range 50 {
		b, still := roomy(someBytes(r, 128))
		m, e := Words(b)
		if e != api.OK {
			t.Fatalf("Words: %d", e)
		}
		for i, w := range m {
			if w != binary.LittleEndian.Uint64(b[8*i:]) {
				t.Errorf("Words: word %d is %x", i, w)
			}
		}
		if !still() {
			t.Error("Words changed its argument, or the room behind it")
		}
	}
	last := make([]byte, 128)
	last[127] = 0x80
	if m, e := Words(last); m != [16]uint64{15: 1 << 63} || e != api.OK {
		t.Errorf("Words of the highest bit: %x %d", m, e)
	}
}

func TestWordsRefuses(t *testing.T) { // MB3, P2, P3
	if m, e := Words(nil); m != [16]uint64{} || e != api.ErrArg {
		t.Errorf("Words(nil): %x %d", m, e)
	}
	for n := range 300 {
		// The room behind the end is no part of the list.
		b, still := roomy(bytes.Repeat([]byte{0xff}, n))
		m, e := Words(b)
		if n == 128 && e != api.OK || n != 128 && (e != api.ErrArg || m != [16]uint64{}) {
			t.Errorf("Words of %d bytes: %x %d", n, m, e)
		}
		if !still() {
			t.Errorf("Words changed its %d bytes, or the room behind them", n)
		}
	}
}

func someState(r *rand.Rand) [8]uint64 {
	var h [8]uint64
	for i := range h {
		h[i] = r.Uint64()
	}
	return h
}

func TestBytes(t *testing.T) { // MB3
	r := rand.New(rand.NewSource(32))
	for range 50 {
		h := someState(r)
		var want []byte
		for _, w := range h {
			want = binary.LittleEndian.AppendUint64(want, w)
		}
		if b := Bytes(h); !bytes.Equal(b, want) {
			t.Errorf("Bytes(%x) = %x", h, b)
		}
	}
	if b := Bytes([8]uint64{}); !bytes.Equal(b, make([]byte, 64)) {
		t.Errorf("Bytes of noughts: %x", b)
	}
}

func TestBytesIsNewMemory(t *testing.T) { // P4
	h := IV()
	first, second := Bytes(h), Bytes(h)
	want := bytes.Clone(second)
	whole := first[:cap(first)]
	for i := range whole {
		whole[i] ^= 0xff
	}
	if !bytes.Equal(second, want) || !bytes.Equal(Bytes(h), want) || IV() != wantIV {
		t.Error("two answers share memory")
	}
}

func TestTablesStay(t *testing.T) { // P4, P5
	words, order := IV(), Sigma(3)
	for i := range words {
		words[i] = 0
	}
	for i := range order {
		order[i] = 99
	}
	F(IV(), [16]uint64{1}, api.Count{Lo: 1, Hi: 2}, true, true)
	Init(IV(), api.Count{Lo: 1, Hi: 2}, true, true)
	Start(bytes.Repeat([]byte{0xff}, 64))
	if IV() != wantIV || Sigma(3) != wantOrders[3] {
		t.Error("a table was changed")
	}
}

func TestStart(t *testing.T) { // MB3
	r := rand.New(rand.NewSource(33))
	for range 50 {
		block, still := roomy(someBytes(r, 64))
		h, e := Start(block)
		if e != api.OK {
			t.Fatalf("Start: %d", e)
		}
		for i, w := range h {
			if w != wantIV[i]^binary.LittleEndian.Uint64(block[8*i:]) {
				t.Errorf("Start: word %d is %x", i, w)
			}
		}
		if !still() {
			t.Error("Start changed its argument, or the room behind it")
		}
	}
	if h, e := Start(make([]byte, 64)); h != wantIV || e != api.OK {
		t.Errorf("Start of noughts: %x %d", h, e)
	}
}

func TestStartOfBLAKE2b512(t *testing.T) { // MB3: the chapter's example
	block := append([]byte{0x40, 0, 1, 1}, make([]byte, 60)...)
	want := wantIV
	want[0] = 0x6a09e667f2bdc948
	if h, e := Start(block); h != want || e != api.OK {
		t.Errorf("Start: %x %d", h, e)
	}
}

func TestStartRefuses(t *testing.T) { // MB3, P2, P3
	if h, e := Start(nil); h != [8]uint64{} || e != api.ErrArg {
		t.Errorf("Start(nil): %x %d", h, e)
	}
	for n := range 200 {
		block, still := roomy(bytes.Repeat([]byte{1}, n))
		h, e := Start(block)
		if n == 64 && e != api.OK || n != 64 && (e != api.ErrArg || h != [8]uint64{}) {
			t.Errorf("Start of %d bytes: %x %d", n, h, e)
		}
		if !still() {
			t.Errorf("Start changed its %d bytes, or the room behind them", n)
		}
	}
}
