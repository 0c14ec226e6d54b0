package long_test

import (
	"math"
	"math/rand"
	"testing"

	"quern/long"
)

func blend(w [4]uint64) [4]uint64 {
	a, b, c, d := long.Blend(w[0], w[1], w[2], w[3])
	return [4]uint64{a, b, c, d}
}

func wantBlend(t *testing.T, w, right [4]uint64) {
	t.Helper()
	if got := blend(w); got != right {
		t.Errorf("Blend(%#x): %#x, want %#x", w, got, right)
	}
}

// edges are words at which the low halves, their products and the sums turn.
func edges() []uint64 {
	return []uint64{0, 1, 2, 1<<31 - 1, 1 << 31, 1<<32 - 1, 1 << 32, 1<<32 + 1, 1 << 33, 1<<63 - 1, 1 << 63, math.MaxUint64 - 1, math.MaxUint64}
}

func TestBlendsExamples(t *testing.T) { // LO2: the chapter's examples
	wantBlend(t, [4]uint64{}, [4]uint64{})
	a, b, c, d := uint64(1), uint64(1)<<8, uint64(1)<<32, uint64(1)<<32
	a += b + 2*a*b
	if a != 1<<9+257 {
		t.Errorf("a is %d", a)
	}
	d = (d^a)>>16 | (d^a)<<48
	c += d
	b = (b^c)>>63 | (b^c)<<1
	wantBlend(t, [4]uint64{1, 0, 0, 0}, [4]uint64{a, b, c, d})
}

func TestToldBlends(t *testing.T) { // LO2
	for _, x := range toldBlends {
		wantBlend(t, x.words, x.want)
	}
}

func TestBlendAtEachEdge(t *testing.T) { // LO2, P6
	for at := range 4 {
		for _, w := range edges() {
			for _, others := range edges() {
				words := [4]uint64{others, others, others, others}
				words[at] = w
				wantBlend(t, words, blendByWords(words))
			}
		}
	}
}

func TestBlendOfEachTwoEdges(t *testing.T) { // LO2, P6
	for i := range 4 {
		for j := range i {
			for _, x := range edges() {
				for _, y := range edges() {
					var words [4]uint64
					words[i], words[j] = x, y
					wantBlend(t, words, blendByWords(words))
				}
			}
		}
	}
}

func TestBlendOfEachBit(t *testing.T) { // LO2
	for at := range 4 {
		for bit := range 64 {
			var words [4]uint64
			words[at] = 1 << bit
			wantBlend(t, words, blendByWords(words))
		}
	}
}

func TestBlendOfManyWords(t *testing.T) { // LO2
	r := rand.New(rand.NewSource(2))
	for range 2000 {
		words := [4]uint64{r.Uint64(), r.Uint64(), r.Uint64(), r.Uint64()}
		wantBlend(t, words, blendByWords(words))
	}
}

func wantPerm(t *testing.T, v, right [16]uint64) {
	t.Helper()
	given := v
	if got := long.Perm(given); got != right {
		t.Errorf("Perm(%#x): %#x, want %#x", v, got, right)
	}
	if given != v {
		t.Errorf("Perm has changed what was handed in: %#x, it was %#x", given, v)
	}
}

func TestToldPerms(t *testing.T) { // LO2, P4
	for _, x := range toldPerms {
		wantPerm(t, x.row, x.want)
	}
}

func TestPermIsEightBlends(t *testing.T) { // LO2, P4
	r := rand.New(rand.NewSource(3))
	wantPerm(t, [16]uint64{}, [16]uint64{})
	for range 300 {
		var v [16]uint64
		for i := range v {
			v[i] = r.Uint64()
		}
		wantPerm(t, v, permByWords(v))
	}
}

func TestPermOfEachWordAlone(t *testing.T) { // LO2
	for at := range 16 {
		for _, w := range edges() {
			var v [16]uint64
			v[at] = w
			wantPerm(t, v, permByWords(v))
		}
	}
}

func TestPermOfUnlikeWords(t *testing.T) { // LO2, P4
	var v [16]uint64
	for i := range v {
		v[i] = uint64(i+1) << (3 * i)
	}
	// Each two words exchanged, so that no place may stand for another.
	for i := range v {
		for j := range i {
			w := v
			w[i], w[j] = w[j], w[i]
			wantPerm(t, w, permByWords(w))
		}
	}
}
