package long_test

import (
	"fmt"
	"math"
	"math/rand"
	"slices"
	"testing"

	"quern/api"
	"quern/long"
)

// sizes are all up to where several digests come out, and those at which a digest, a byte of the size or the limit turns.
func sizes() []int {
	var list []int
	for n := 1; n <= 200; n++ {
		list = append(list, n)
	}
	return append(list, 255, 256, 257, 511, 512, 513, 1023, 1024, 1025)
}

// greatSizes are those that take long.
func greatSizes() []int {
	return []int{1<<16 - 1, 1 << 16, 1<<16 + 1, 1<<16 + 33, 1<<20 - 32, 1<<20 - 1, 1 << 20}
}

// lengths are those at which data, with the four bytes of the size ahead, fill a block.
func lengths() []int {
	return []int{0, 1, 3, 4, 5, 60, 64, 123, 124, 125, 127, 128, 129, 252, 253, 256, 1000}
}

func TestHashByWords(t *testing.T) { // LO1
	for _, size := range sizes() {
		for _, n := range lengths() {
			data := pattern(n)
			got, e := long.Hash(size, data)
			wantBytes(t, fmt.Sprintf("Hash(%d) of %d bytes", size, n), got, e, hashByWords(t, size, data))
		}
	}
}

func TestHashOfGreatSizes(t *testing.T) { // LO1, Limits
	t.Parallel()
	for _, size := range greatSizes() {
		for _, n := range []int{0, 125} {
			data := rising(n)
			got, e := long.Hash(size, data)
			wantBytes(t, fmt.Sprintf("Hash(%d) of %d bytes", size, n), got, e, hashByWords(t, size, data))
		}
	}
}

func TestHashOfMuchData(t *testing.T) { // LO1
	data := pattern(1 << 20)
	for _, size := range []int{1, 64, 65, 1024} {
		got, e := long.Hash(size, data)
		wantBytes(t, fmt.Sprintf("Hash(%d) of a million bytes", size), got, e, hashByWords(t, size, data))
	}
}

func TestToldHashes(t *testing.T) { // LO1
	for _, x := range toldHashes {
		got, e := long.Hash(x.size, pattern(x.length))
		wantBytes(t, fmt.Sprintf("Hash(%d) of %d bytes", x.size, x.length), got, e, unhex(t, x.want))
	}
	for _, x := range toldLongHashes {
		got, e := long.Hash(x.size, pattern(x.length))
		if len(got) != x.size {
			t.Errorf("Hash(%d) has %d bytes", x.size, len(got))
		}
		wantBytes(t, fmt.Sprintf("the digest of Hash(%d) of %d bytes", x.size, x.length), plain(t, 32, got), e, unhex(t, x.want))
	}
}

func TestHashesExample(t *testing.T) { // LO1: the chapter's example
	for _, data := range [][]byte{nil, []byte("abc"), pattern(300)} {
		v := plain(t, 64, append([]byte{65, 0, 0, 0}, data...))
		got, e := long.Hash(65, data)
		wantBytes(t, "Hash(65)", got, e, slices.Concat(v[:32], plain(t, 33, v)))
	}
}

func TestHashRefuses(t *testing.T) { // LO1, P1, P2, P6, Limits
	if api.MaxLong != 1048576 {
		t.Fatalf("MaxLong is %d", api.MaxLong)
	}
	bad := []int{0, -1, -64, 1<<20 + 1, 1<<20 + 32, 1 << 21, 1<<31 - 1, 1 << 31, 1 << 32, 1<<32 + 1, 1<<32 + 64, 1 - 1<<32, math.MinInt, math.MinInt + 1, math.MaxInt}
	for _, size := range bad {
		for _, data := range [][]byte{nil, {}, {1}, pattern(1000)} {
			got, e := long.Hash(size, data)
			wantNone(t, fmt.Sprintf("Hash(%d) of %d bytes", size, len(data)), got, e)
		}
	}
}

func TestHashOfNoBytes(t *testing.T) { // LO1, P3
	for _, size := range []int{1, 32, 64, 65, 96, 97, 1024} {
		none, e := long.Hash(size, nil)
		wantBytes(t, "Hash of nil", none, e, hashByWords(t, size, nil))
		for _, data := range [][]byte{{}, pattern(50)[:0], make([]byte, 0, 9)} {
			got, e := long.Hash(size, data)
			wantBytes(t, "Hash of no bytes", got, e, none)
		}
	}
}

func TestHashIsAsLongAsAskedFor(t *testing.T) { // LO4
	r := rand.New(rand.NewSource(1))
	ask := sizes()
	for range 200 {
		ask = append(ask, 1+r.Intn(5000))
	}
	for _, size := range ask {
		got, e := long.Hash(size, someBytes(r, r.Intn(200)))
		if e != api.OK || len(got) != size {
			t.Errorf("Hash(%d): %d bytes, error %d", size, len(got), e)
		}
	}
}
