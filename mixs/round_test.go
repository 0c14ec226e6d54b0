package mixs

import (
	"math"
	"math/rand"
	"testing"

	"quern/api"
	"quern/mixb"
)

type state = [16]uint32

func someWords(r *rand.Rand) state {
	var v state
	for i := range v {
		v[i] = r.Uint32()
	}
	return v
}

// edgeStates are such as carry, wrap round, or have no bit at all.
func edgeStates(r *rand.Rand) []state {
	list := []state{{}, {0: 1}, {15: 1 << 31}}
	var full, high state
	for i := range full {
		full[i], high[i] = math.MaxUint32, 1<<31
	}
	list = append(list, full, high)
	for range 20 {
		list = append(list, someWords(r))
	}
	return list
}

func turned(w uint32, n int) uint32 {
	for range n {
		w = w>>1 | w<<31
	}
	return w
}

// stepped is G, a step a line as the chapter tells it.
func stepped(v state, a, b, c, d int, x, y uint32) state {
	v[a] = v[a] + v[b] + x
	v[d] = turned(v[d]^v[a], 16)
	v[c] = v[c] + v[d]
	v[b] = turned(v[b]^v[c], 12)
	v[a] = v[a] + v[b] + y
	v[d] = turned(v[d]^v[a], 8)
	v[c] = v[c] + v[d]
	v[b] = turned(v[b]^v[c], 7)
	return v
}

// rounded is Round, a step a line as the chapter tells it.
func rounded(v, m state, round int) state {
	s := mixb.Sigma(round)
	v = stepped(v, 0, 4, 8, 12, m[s[0]], m[s[1]])
	v = stepped(v, 1, 5, 9, 13, m[s[2]], m[s[3]])
	v = stepped(v, 2, 6, 10, 14, m[s[4]], m[s[5]])
	v = stepped(v, 3, 7, 11, 15, m[s[6]], m[s[7]])
	v = stepped(v, 0, 5, 10, 15, m[s[8]], m[s[9]])
	v = stepped(v, 1, 6, 11, 12, m[s[10]], m[s[11]])
	v = stepped(v, 2, 7, 8, 13, m[s[12]], m[s[13]])
	v = stepped(v, 3, 4, 9, 14, m[s[14]], m[s[15]])
	return v
}

func TestGOfNoughts(t *testing.T) { // P4.2
	want := state{0: 0x11, 4: 0x20220202, 8: 0x11010100, 12: 0x11000100}
	if v, e := G(state{}, 0, 4, 8, 12, 1, 0); v != want || e != api.OK {
		t.Errorf("G: %x %d", v, e)
	}
	if v, e := Ungroup(want, 0, 4, 8, 12, 1, 0); v != (state{}) || e != api.OK {
		t.Errorf("Ungroup: %x %d", v, e)
	}
}

func allPlaces(do func(a, b, c, d int)) {
	for i := range 16 * 16 * 16 * 16 {
		do(i>>12, i>>8&15, i>>4&15, i&15)
	}
}

func TestGAndUngroupAtAllPlaces(t *testing.T) { // P4.2
	v := someWords(rand.New(rand.NewSource(64)))
	const x, y = 0x9e3779b9, 0xf39cc060
	taken := 0
	allPlaces(func(a, b, c, d int) {
		there, e1 := G(v, a, b, c, d, x, y)
		back, e2 := Ungroup(v, a, b, c, d, x, y)
		if a == b || a == c || a == d || b == c || b == d || c == d {
			if there != (state{}) || e1 != api.ErrArg || back != (state{}) || e2 != api.ErrArg {
				t.Errorf("at %d %d %d %d: %x %d, %x %d", a, b, c, d, there, e1, back, e2)
			}
			return
		}
		taken++
		if there != stepped(v, a, b, c, d, x, y) || e1 != api.OK {
			t.Errorf("G at %d %d %d %d: %x %d", a, b, c, d, there, e1)
		}
		if stepped(back, a, b, c, d, x, y) != v || e2 != api.OK {
			t.Errorf("Ungroup at %d %d %d %d: %x %d", a, b, c, d, back, e2)
		}
	})
	if taken != 16*15*14*13 {
		t.Errorf("%d places were taken", taken)
	}
}

func TestGAndUngroupOfManyStates(t *testing.T) { // P4.2, P6
	r := rand.New(rand.NewSource(65))
	for _, v := range edgeStates(r) {
		for _, x := range []uint32{0, 1, 1 << 31, math.MaxUint32, r.Uint32()} {
			for _, y := range []uint32{0, 1, 1 << 31, math.MaxUint32, r.Uint32()} {
				there, e := G(v, 3, 4, 9, 14, x, y)
				if there != stepped(v, 3, 4, 9, 14, x, y) || e != api.OK {
					t.Errorf("G(%x, %x, %x) = %x, %d", v, x, y, there, e)
				}
				if got, e := Ungroup(there, 3, 4, 9, 14, x, y); got != v || e != api.OK {
					t.Errorf("Ungroup of G(%x, %x, %x) = %x, %d", v, x, y, got, e)
				}
				back, e := Ungroup(v, 3, 4, 9, 14, x, y)
				if got := stepped(back, 3, 4, 9, 14, x, y); got != v || e != api.OK {
					t.Errorf("Ungroup(%x, %x, %x) = %x, %d", v, x, y, back, e)
				}
			}
		}
	}
}

func TestNoPlacesRefused(t *testing.T) { // P4.2, P2, P6
	v := someWords(rand.New(rand.NewSource(66)))
	refused := func(p [4]int) {
		if got, e := G(v, p[0], p[1], p[2], p[3], 1, 2); got != (state{}) || e != api.ErrArg {
			t.Errorf("G at %v: %x %d", p, got, e)
		}
		if got, e := Ungroup(v, p[0], p[1], p[2], p[3], 1, 2); got != (state{}) || e != api.ErrArg {
			t.Errorf("Ungroup at %v: %x %d", p, got, e)
		}
	}
	refused([4]int{0, 0, 1, 2})
	for _, wrong := range []int{-1, -4, -16, 16, 17, 20, 256, 1 << 32, -1 << 32, math.MinInt, math.MaxInt} {
		for at := range 4 {
			p := [4]int{0, 4, 8, 12}
			p[at] = wrong
			refused(p)
		}
		refused([4]int{wrong, wrong, wrong, wrong})
	}
}

func TestRound(t *testing.T) { // P4.2
	r := rand.New(rand.NewSource(67))
	for round := range 10 {
		for _, v := range edgeStates(r) {
			for _, m := range edgeStates(r) {
				if got, e := Round(v, m, round); got != rounded(v, m, round) || e != api.OK {
					t.Fatalf("Round(%x, %x, %d) = %x, %d", v, m, round, got, e)
				}
			}
		}
	}
}

// TestRoundIsEightSteps holds Round and Unround against G and Ungroup themselves.
func TestRoundIsEightSteps(t *testing.T) { // P4.2
	r := rand.New(rand.NewSource(68))
	steps := [8][4]int{{0, 4, 8, 12}, {1, 5, 9, 13}, {2, 6, 10, 14}, {3, 7, 11, 15}, {0, 5, 10, 15}, {1, 6, 11, 12}, {2, 7, 8, 13}, {3, 4, 9, 14}}
	for round := range 10 {
		v, m := someWords(r), someWords(r)
		there, back, s := v, v, mixb.Sigma(round)
		for i, p := range steps {
			there, _ = G(there, p[0], p[1], p[2], p[3], m[s[2*i]], m[s[2*i+1]])
			p, i = steps[7-i], 7-i
			back, _ = Ungroup(back, p[0], p[1], p[2], p[3], m[s[2*i]], m[s[2*i+1]])
		}
		if got, e := Round(v, m, round); got != there || e != api.OK {
			t.Errorf("round %d: %x %d", round, got, e)
		}
		if got, e := Unround(v, m, round); got != back || e != api.OK {
			t.Errorf("back behind round %d: %x %d", round, got, e)
		}
	}
}

// TestRoundsOfABC: the words at 0, 5, 10, 15 behind each round of BLAKE2s-256 of "abc", worked out apart from this program.
func TestRoundsOfABC(t *testing.T) { // P4.2, P4.3
	want := [10][4]uint32{
		{0x16a3242e, 0x93a4a14e, 0x608a3a6b, 0x3bb44c6b},
		{0x3ae30fe3, 0x0e66d326, 0x30db62d6, 0x524ab0e2},
		{0x7a3be783, 0x10e864e2, 0xf2c218b5, 0xc4edfc98},
		{0x2a8b8cb7, 0xe090e7f9, 0xf17ee300, 0x47d6cd88},
		{0xc4aa2ddb, 0xb1e11989, 0x622cb684, 0x643f9cec},
		{0x3453921c, 0xde9212c3, 0xebfc2712, 0xece1aa40},
		{0xbe851b2d, 0x87be1fad, 0x071783c2, 0xf849a584},
		{0x07e5b85a, 0x9ab659ea, 0xaf1d998c, 0x4f1fa799},
		{0x435148c4, 0xbf1d2569, 0xeaf4a1ab, 0x2863b92e},
		{0xd9c994aa, 0x1d023ef3, 0xef485e21, 0x4deafd3a},
	}
	h, m := abc(t)
	v := Begin(h, 3, true, false)
	list := States(h, m, 3, true, false)
	for round, words := range want {
		v, _ = Round(v, m, round)
		if got := [4]uint32{v[0], v[5], v[10], v[15]}; got != words || list[round+1] != v {
			t.Errorf("behind round %d: %x", round, got)
		}
	}
}

func TestRoundsRefused(t *testing.T) { // P4.2, P2, P6
	v := someWords(rand.New(rand.NewSource(69)))
	for _, round := range []int{-1, -10, -11, 10, 11, 12, 20, 256, 1 << 32, math.MinInt, math.MaxInt} {
		if got, e := Round(v, v, round); got != (state{}) || e != api.ErrArg {
			t.Errorf("Round %d: %x %d", round, got, e)
		}
		if got, e := Unround(v, v, round); got != (state{}) || e != api.ErrArg {
			t.Errorf("Unround %d: %x %d", round, got, e)
		}
	}
}

func TestUnroundOfWhatWasRounded(t *testing.T) { // P4.2
	r := rand.New(rand.NewSource(70))
	for round := range 10 {
		for _, v := range edgeStates(r) {
			for _, m := range edgeStates(r) {
				if got, e := Unround(rounded(v, m, round), m, round); got != v || e != api.OK {
					t.Fatalf("Unround to %x by %x in round %d: %x, %d", v, m, round, got, e)
				}
			}
		}
	}
}

func TestThereAndBack(t *testing.T) { // P4.6
	r := rand.New(rand.NewSource(71))
	for round := range 10 {
		for _, v := range edgeStates(r) {
			for _, m := range edgeStates(r) {
				there, _ := Round(v, m, round)
				if got, e := Unround(there, m, round); got != v || e != api.OK {
					t.Fatalf("Unround of Round of %x by %x in round %d: %x, %d", v, m, round, got, e)
				}
				back, _ := Unround(v, m, round)
				if got, e := Round(back, m, round); got != v || e != api.OK {
					t.Fatalf("Round of Unround of %x by %x in round %d: %x, %d", v, m, round, got, e)
				}
			}
		}
	}
}
