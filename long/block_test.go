package long_test

import (
	"bytes"
	"fmt"
	"math/rand"
	"testing"

	"quern/api"
	"quern/long"
)

// someBlocks are the named ones and some by chance.
func someBlocks() [][]byte {
	var list [][]byte
	for _, name := range []string{"noughts", "pattern", "rising", "full", "first bit", "last bit", "word 17"} {
		list = append(list, blocks()[name])
	}
	r := rand.New(rand.NewSource(4))
	for range 5 {
		list = append(list, someBytes(r, 1024))
	}
	return list
}

// wantAll holds the three calls of blocks against the chapter's words.
func wantAll(t *testing.T, what string, x, y, old []byte) {
	t.Helper()
	mixed := mixByWords(x, y)
	got, e := long.Xor(x, y)
	wantBytes(t, what+": Xor", got, e, xorByWords(x, y))
	got, e = long.Mix(x, y)
	wantBytes(t, what+": Mix", got, e, mixed)
	got, e = long.Over(x, y, old)
	wantBytes(t, what+": Over", got, e, xorByWords(mixed, old))
}

func TestBlocksByWords(t *testing.T) { // LO3
	if api.BlockBytes != 1024 {
		t.Fatalf("a block has %d bytes", api.BlockBytes)
	}
	list := someBlocks()
	for i, x := range list {
		for j, y := range list {
			wantAll(t, fmt.Sprintf("blocks %d and %d", i, j), x, y, list[(i+3*j+1)%len(list)])
		}
	}
}

func TestBlocksOfOneByte(t *testing.T) { // LO3
	t.Parallel()
	old := pattern(1024)
	for at := range 1024 {
		wantAll(t, fmt.Sprintf("one byte at %d", at), oneByte(at, byte(at*7+1)), make([]byte, 1024), old)
	}
}

func TestBlocksByChance(t *testing.T) { // LO3
	t.Parallel()
	r := rand.New(rand.NewSource(5))
	for i := range 200 {
		wantAll(t, fmt.Sprintf("by chance, %d", i), someBytes(r, 1024), someBytes(r, 1024), someBytes(r, 1024))
	}
}

func TestToldMixes(t *testing.T) { // LO3
	named := blocks()
	for _, x := range toldMixes {
		got, e := long.Mix(named[x.x], named[x.y])
		if e != api.OK || len(got) != 1024 {
			t.Errorf("Mix(%s, %s): %d bytes, error %d", x.x, x.y, len(got), e)
			continue
		}
		wantBytes(t, "the first bytes of Mix("+x.x+", "+x.y+")", got[:16], e, unhex(t, x.first))
		wantBytes(t, "the last bytes of Mix("+x.x+", "+x.y+")", got[1008:], e, unhex(t, x.last))
		wantBytes(t, "the digest of Mix("+x.x+", "+x.y+")", plain(t, 32, got), e, unhex(t, x.digest))
	}
	for _, x := range toldOvers {
		got, e := long.Over(named[x.x], named[x.y], named[x.old])
		wantBytes(t, "the digest of Over("+x.x+", "+x.y+", "+x.old+")", plain(t, 32, got), e, unhex(t, x.digest))
	}
}

// noBlocks are lists that have not 1024 bytes.
func noBlocks() [][]byte {
	var list [][]byte
	for _, n := range []int{0, 1, 8, 64, 128, 512, 1016, 1023, 1025, 1032, 2047, 2048, 1 << 16, 1<<16 + 1024} {
		list = append(list, rising(n))
	}
	return append(list, nil, make([]byte, 0, 1024), rising(1024)[:1023], rising(2048)[1024:1024])
}

func TestNoBlocks(t *testing.T) { // LO3, P1, P2, P3
	good := pattern(1024)
	for _, bad := range noBlocks() {
		what := fmt.Sprintf("%d bytes", len(bad))
		for _, x := range [][2][]byte{{bad, good}, {good, bad}, {bad, bad}, {bad, nil}, {nil, bad}} {
			got, e := long.Xor(x[0], x[1])
			wantNone(t, "Xor, "+what, got, e)
			got, e = long.Mix(x[0], x[1])
			wantNone(t, "Mix, "+what, got, e)
		}
		for among := 1; among < 8; among++ {
			list := [][]byte{good, good, good}
			for i := range list {
				if among>>i&1 == 1 {
					list[i] = bad
				}
			}
			got, e := long.Over(list[0], list[1], list[2])
			wantNone(t, fmt.Sprintf("Over, %s at the places %03b", what, among), got, e)
		}
	}
}

func TestLengthsThatMakeUpForOneAnother(t *testing.T) { // LO3
	for _, x := range [][2]int{{1023, 1025}, {1025, 1023}, {0, 2048}, {2048, 0}, {512, 1536}} {
		a, b := pattern(x[0]), rising(x[1])
		got, e := long.Xor(a, b)
		wantNone(t, fmt.Sprint("Xor ", x), got, e)
		got, e = long.Mix(a, b)
		wantNone(t, fmt.Sprint("Mix ", x), got, e)
		got, e = long.Over(a, b, pattern(1024))
		wantNone(t, fmt.Sprint("Over ", x), got, e)
		got, e = long.Over(a, pattern(1024), b)
		wantNone(t, fmt.Sprint("Over ", x), got, e)
	}
}

func TestMixInEitherOrder(t *testing.T) { // LO4
	list := someBlocks()
	for i, x := range list {
		for j, y := range list {
			there, e1 := long.Mix(x, y)
			back, e2 := long.Mix(y, x)
			if e1 != api.OK || e2 != api.OK || !bytes.Equal(there, back) {
				t.Errorf("blocks %d and %d: %s %d, the other way %s %d", i, j, short(there), e1, short(back), e2)
			}
		}
	}
}

func TestMixOfABlockAndItself(t *testing.T) { // LO4
	noughts := make([]byte, 1024)
	for i, x := range someBlocks() {
		got, e := long.Mix(x, x)
		wantBytes(t, fmt.Sprintf("Mix of block %d and itself", i), got, e, noughts)
		got, e = long.Mix(x, bytes.Clone(x))
		wantBytes(t, fmt.Sprintf("Mix of block %d and its like", i), got, e, noughts)
		got, e = long.Xor(x, x)
		wantBytes(t, fmt.Sprintf("Xor of block %d and itself", i), got, e, noughts)
	}
}

func TestOverIsXorOfMix(t *testing.T) { // LO3, LO4
	list := someBlocks()
	for i, x := range list {
		for j, y := range list {
			old := list[(2*i+j)%len(list)]
			mixed, e := long.Mix(x, y)
			wantBytes(t, "Mix", mixed, e, mixByWords(x, y))
			right, e := long.Xor(mixed, old)
			wantBytes(t, "Xor", right, e, xorByWords(mixed, old))
			got, e := long.Over(x, y, old)
			wantBytes(t, fmt.Sprintf("Over of blocks %d and %d", i, j), got, e, right)
			// What is laid over twice is gone.
			back, e := long.Xor(got, old)
			wantBytes(t, "Xor of Over and old", back, e, mixed)
		}
	}
}

func TestMixHangsOnTheXorAlone(t *testing.T) { // LO3
	list := someBlocks()
	for _, x := range list {
		for _, y := range list {
			r, e := long.Xor(x, y)
			wantBytes(t, "Xor", r, e, xorByWords(x, y))
			a, e := long.Mix(r, make([]byte, 1024))
			wantBytes(t, "Mix of the Xor and noughts", a, e, mixByWords(x, y))
		}
	}
}
