package argon_test

import (
	"fmt"
	"math"
	"math/rand"
	"slices"
	"testing"

	"quern/api"
	"quern/argon"
)

// place is one that may or may not be: of a segment, and of a block in it.
type place struct{ pass, slice, lane, x int }

// grids have segments of two columns, of few, and of as many as one block of addresses has numbers, or more.
func grids() []api.Argon {
	return []api.Argon{
		setting(api.ArgonD, 8, 1, 1),
		setting(api.ArgonID, 16, 3, 1),
		setting(api.ArgonI, 47, 2, 3),
		chapters(api.ArgonID),
		setting(api.ArgonD, 64, 3, 4),
		setting(api.ArgonI, 64, 16, 8),
		setting(api.ArgonID, 127, 2, 8),
		setting(api.ArgonI, 511, 2, 1),
		setting(api.ArgonID, 512, 3, 1),
		setting(api.ArgonI, 516, 2, 1),
		setting(api.ArgonD, 4096, 2, 8),
		setting(api.ArgonID, 4096, 16, 3),
		setting(api.ArgonI, 4095, 2, 1),
	}
}

// segments are all of a setting's, of the passes at the ends and of one between.
func segments(a api.Argon) []place {
	var list []place
	for _, pass := range slices.Compact([]int{0, a.Passes / 2, a.Passes - 1}) {
		for slice := range 4 {
			for lane := range a.Lanes {
				list = append(list, place{pass: pass, slice: slice, lane: lane})
			}
		}
	}
	return list
}

// noSegments are beside the ends of a setting's.
func noSegments(a api.Argon) []place {
	var list []place
	far := []int{-1, math.MinInt, math.MinInt + 1, math.MaxInt, 1 << 32, 1 << 31, -1 << 32, 1 << 63 >> 1}
	for _, n := range append(far, a.Passes, a.Passes+1) {
		list = append(list, place{pass: n}, place{pass: n, slice: 3, lane: a.Lanes - 1})
	}
	for _, n := range append(far, 4, 5) {
		list = append(list, place{slice: n}, place{pass: a.Passes - 1, slice: n, lane: a.Lanes - 1})
	}
	for _, n := range append(far, a.Lanes, a.Lanes+1, a.Lanes+8) {
		list = append(list, place{lane: n}, place{pass: a.Passes - 1, slice: 3, lane: n})
	}
	return append(list, place{-1, -1, -1, 0}, place{a.Passes, 4, a.Lanes, 0})
}

// numbers are at the ends of both halves, and some by chance.
func numbers(r *rand.Rand) []uint64 {
	list := []uint64{0, 1, 1<<16 - 1, 1 << 16, 1<<31 - 1, 1 << 31, 1<<32 - 2, 1<<32 - 1, 1 << 32, 1<<32 + 1, 2<<32 - 1, 7 << 32, 8 << 32, 1 << 63, 1<<63 - 1, math.MaxUint64 - 1<<32, math.MaxUint64 - 1<<32 + 1, math.MaxUint64 - 1, math.MaxUint64}
	for range 6 {
		list = append(list, r.Uint64())
	}
	return list
}

func TestAddressesByWords(t *testing.T) { // P20.2
	t.Parallel()
	for _, a := range grids() {
		for i, at := range segments(a) {
			if widthByWords(a) > 200 && i%5 > 0 {
				continue
			}
			got, e := argon.Addresses(a, at.pass, at.slice, at.lane)
			right := addressesByWords(a, at.pass, at.slice, at.lane)
			if e != api.OK || !slices.Equal(got, right) {
				t.Errorf("%+v, %+v: %d numbers, error %d, want %d other ones", a, at, len(got), e, len(right))
			}
		}
	}
}

func TestAddressesWhateverTheKind(t *testing.T) { // P20.2: each kind has some, of its own
	for slice := range 4 {
		var seen []uint64
		for kind := range 3 {
			a := chapters(kind)
			got, e := argon.Addresses(a, 2, slice, 3)
			if e != api.OK || len(got) != 2 {
				t.Fatalf("%+v: %d numbers, error %d", a, len(got), e)
			}
			if slices.Contains(seen, got[0]) {
				t.Errorf("%+v: the number of another kind", a)
			}
			seen = append(seen, got[0])
		}
	}
}

func TestAddressesHangOnTheColumns(t *testing.T) { // P20.2: on lanes times the columns, not on what is asked for, nor on the tag
	right, _ := argon.Addresses(setting(api.ArgonI, 32, 3, 4), 1, 1, 1)
	for memory := 32; memory < 48; memory++ {
		a := setting(api.ArgonI, memory, 3, 4)
		a.Tag = memory
		got, e := argon.Addresses(a, 1, 1, 1)
		if e != api.OK || !slices.Equal(got, right) {
			t.Errorf("%d blocks: %x %d, want %x", memory, got, e, right)
		}
	}
	got, e := argon.Addresses(setting(api.ArgonI, 48, 3, 4), 1, 1, 1)
	if e != api.OK || len(got) != 3 || slices.Equal(got[:2], right) {
		t.Errorf("48 blocks: %x %d", got, e)
	}
}

func TestAddressesRefuse(t *testing.T) { // P20.2, P1, P2, P6
	for _, a := range grids() {
		for _, at := range noSegments(a) {
			got, e := argon.Addresses(a, at.pass, at.slice, at.lane)
			wantNone(t, fmt.Sprintf("Addresses of %+v, %+v", a, at), len(got), e, api.ErrArg)
		}
	}
	for _, a := range badSettings() {
		for _, at := range []place{{}, {pass: -1}, {slice: 4}, {lane: 9}, {pass: a.Passes}, {lane: a.Lanes}, {pass: math.MaxInt, slice: math.MinInt, lane: math.MaxInt}} {
			got, e := argon.Addresses(a, at.pass, at.slice, at.lane)
			wantNone(t, fmt.Sprintf("Addresses of %+v, %+v", a, at), len(got), e, api.ErrArgon)
		}
	}
}

// placesOf are some of a segment's: the ends, what lies beside them, and all of a short one.
func placesOf(a api.Argon, at place) []int {
	s := widthByWords(a)
	var list []int
	for x := range s {
		if s <= 8 || x < 4 || x > s-3 || x == s/2 || x == 127 || x == 128 {
			list = append(list, x)
		}
	}
	if at.pass == 0 && at.slice == 0 {
		list = list[2:]
	}
	return list
}

func TestReferByWords(t *testing.T) { // P20.3
	r := rand.New(rand.NewSource(22))
	for _, a := range grids() {
		for _, at := range segments(a) {
			for _, x := range placesOf(a, at) {
				for _, j := range numbers(r) {
					l, c, e := argon.Refer(a, at.pass, at.slice, at.lane, x, j)
					rightL, rightC := referByWords(a, at.pass, at.slice, at.lane, x, j)
					if e != api.OK || l != rightL || c != rightC {
						t.Errorf("%+v, %+v, place %d, j %x: %d %d %d, want %d %d", a, at, x, j, l, c, e, rightL, rightC)
					}
				}
			}
		}
	}
}

func TestReferWhateverTheKind(t *testing.T) { // P20.3
	r := rand.New(rand.NewSource(23))
	for range 2000 {
		a := setting(api.ArgonD, 64+r.Intn(200), 4, 1+r.Intn(8))
		at := place{r.Intn(4), r.Intn(4), r.Intn(a.Lanes), 0}
		x := 2 + r.Intn(widthByWords(a)-1)
		if x >= widthByWords(a) {
			continue
		}
		j := r.Uint64()
		l, c, e := argon.Refer(a, at.pass, at.slice, at.lane, x, j)
		for kind := range 3 {
			a.Kind, a.Tag = kind, 4+r.Intn(1000)
			l2, c2, e2 := argon.Refer(a, at.pass, at.slice, at.lane, x, j)
			if e != api.OK || l != l2 || c != c2 || e != e2 {
				t.Errorf("%+v, %+v, place %d, j %x: %d %d %d, of another kind %d %d %d", a, at, x, j, l2, c2, e2, l, c, e)
			}
		}
	}
}

func TestReferAtTheEnds(t *testing.T) { // P20.3: worked out by hand
	a := setting(api.ArgonID, 128, 3, 4) // 32 columns, 8 of a segment
	for _, c := range []struct {
		at           place
		j            uint64
		lane, column int
	}{
		// The first slice of the first pass: the own lane, whatever J2 is.
		{place{0, 0, 1, 2}, 0, 1, 0},
		{place{0, 0, 1, 2}, math.MaxUint64, 1, 0},
		{place{0, 0, 1, 7}, 0, 1, 5},
		{place{0, 0, 1, 7}, 2 << 32, 1, 5},
		{place{0, 0, 3, 7}, 1<<32 - 1, 3, 0},
		{place{0, 0, 3, 7}, 1 << 31, 3, 4}, // a quarter of 6 is 1
		// Later slices of the first pass.
		{place{0, 1, 1, 0}, 1 << 32, 1, 6},
		{place{0, 1, 1, 0}, 2 << 32, 2, 6},
		{place{0, 1, 1, 1}, 1 << 32, 1, 7},
		{place{0, 1, 1, 1}, 2 << 32, 2, 7},
		{place{0, 1, 1, 7}, 5 << 32, 1, 13},
		{place{0, 1, 1, 7}, 6 << 32, 2, 7},
		{place{0, 3, 2, 7}, 2 << 32, 2, 29},
		{place{0, 3, 2, 7}, 3 << 32, 3, 23},
		{place{0, 3, 2, 7}, 4<<32 - 1, 3, 0},
		{place{0, 3, 2, 7}, math.MaxUint64, 3, 0},
		// Later passes: what follows the slice comes first.
		{place{1, 0, 0, 0}, 0, 0, 30},
		{place{1, 0, 0, 0}, 1 << 32, 1, 30},
		{place{1, 0, 0, 0}, 1<<32 - 1, 0, 8},
		{place{1, 0, 0, 1}, 0, 0, 31},
		{place{1, 0, 0, 2}, 0, 0, 0},
		{place{1, 0, 0, 2}, 1 << 32, 1, 31},
		{place{1, 0, 0, 7}, 1<<32 - 1, 0, 8},
		{place{1, 1, 0, 0}, 0, 0, 6},
		{place{1, 1, 0, 0}, 1<<33 - 1, 1, 16},
		{place{1, 1, 0, 1}, 1 << 32, 1, 7},
		{place{2, 2, 3, 4}, 3 << 32, 3, 18},
		{place{2, 2, 3, 4}, 4<<32 - 1, 3, 24},
		{place{2, 2, 3, 4}, 2 << 32, 2, 15},
		{place{2, 3, 3, 0}, 3 << 32, 3, 22},
		{place{2, 3, 3, 0}, 4<<32 - 1, 3, 0},
		{place{2, 3, 3, 7}, 3 << 32, 3, 29},
		{place{2, 3, 3, 7}, 0, 0, 23},
	} {
		l, column, e := argon.Refer(a, c.at.pass, c.at.slice, c.at.lane, c.at.x, c.j)
		if e != api.OK || l != c.lane || column != c.column {
			t.Errorf("%+v, j %x: %d %d %d, want %d %d", c.at, c.j, l, column, e, c.lane, c.column)
		}
	}
}

func wantNoReference(t *testing.T, a api.Argon, at place, j uint64, right api.Errno) {
	t.Helper()
	l, c, e := argon.Refer(a, at.pass, at.slice, at.lane, at.x, j)
	if l != 0 || c != 0 || e != right {
		t.Errorf("%+v, %+v, j %x: %d %d %d, want error %d", a, at, j, l, c, e, right)
	}
}

func TestReferRefuses(t *testing.T) { // P20.3, P1, P2, P6
	for _, a := range grids() {
		s := widthByWords(a)
		for _, j := range []uint64{0, 1<<32 - 1, 1 << 32, math.MaxUint64} {
			for _, at := range segments(a) {
				for _, x := range []int{-1, math.MinInt, math.MaxInt, s, s + 1, 4 * s, 1 << 32, 1<<32 + 2, -1 << 32} {
					at.x = x
					wantNoReference(t, a, at, j, api.ErrArg)
				}
			}
			for lane := range a.Lanes {
				wantNoReference(t, a, place{0, 0, lane, 0}, j, api.ErrArg)
				wantNoReference(t, a, place{0, 0, lane, 1}, j, api.ErrArg)
			}
			for _, at := range noSegments(a) {
				for _, x := range []int{0, 1, s - 1, -1} {
					at.x = x
					wantNoReference(t, a, at, j, api.ErrArg)
				}
			}
		}
	}
	for _, a := range badSettings() {
		for _, at := range []place{{0, 1, 0, 0}, {0, 0, 0, 0}, {-1, 4, 9, -1}, {a.Passes, 0, a.Lanes, 2}} {
			wantNoReference(t, a, at, 1, api.ErrArgon)
		}
	}
}

func TestPlacesOfOneAndTwo(t *testing.T) { // P20.3: only the first slice of the first pass has begun columns
	a := setting(api.ArgonI, 8, 2, 1)
	for pass := range 2 {
		for slice := range 4 {
			for x := range 3 {
				_, _, e := argon.Refer(a, pass, slice, 0, x, 9)
				want := api.OK
				if x == 2 || pass == 0 && slice == 0 {
					want = api.ErrArg
				}
				if e != want {
					t.Errorf("pass %d, slice %d, place %d: error %d, want %d", pass, slice, x, e, want)
				}
			}
		}
	}
}

func TestExampleReference(t *testing.T) { // the chapter's second example, with as many blocks as its segment needs to have a place 2
	for _, memory := range []int{48, 64, 4096} {
		for _, j := range numbers(rand.New(rand.NewSource(24))) {
			l, c, e := argon.Refer(setting(api.ArgonID, memory, 3, 4), 0, 0, 1, 2, j)
			if l != 1 || c != 0 || e != api.OK {
				t.Errorf("%d blocks, j %x: %d %d %d", memory, j, l, c, e)
			}
		}
	}
	// Of 32 blocks a segment has the places 0 and 1 alone.
	wantNoReference(t, chapters(api.ArgonID), place{0, 0, 1, 2}, 5, api.ErrArg)
}

func TestAddressesToldByTheOtherProgram(t *testing.T) { // P20.2
	for _, x := range toldAddresses {
		got, e := argon.Addresses(x.a, x.at.pass, x.at.slice, x.at.lane)
		if e != api.OK || len(got) != x.n {
			t.Errorf("%+v, %+v: %d numbers, error %d, want %d", x.a, x.at, len(got), e, x.n)
			continue
		}
		if got[0] != x.first || got[x.n-1] != x.last {
			t.Errorf("%+v, %+v: from %x to %x, want %x to %x", x.a, x.at, got[0], got[x.n-1], x.first, x.last)
		}
	}
}

func TestReferencesToldByTheOtherProgram(t *testing.T) { // P20.3
	for _, x := range toldReferences {
		l, c, e := argon.Refer(x.a, x.at.pass, x.at.slice, x.at.lane, x.at.x, x.j)
		if l != x.lane || c != x.column || e != api.OK {
			t.Errorf("%+v, %+v, j %x: %d %d %d, want %d %d", x.a, x.at, x.j, l, c, e, x.lane, x.column)
		}
	}
}
