package argon_test

import (
	"bytes"
	"fmt"
	"math/rand"
	"slices"
	"testing"

	"quern/api"
	"quern/argon"
)

func TestReferencesThatAreNever(t *testing.T) { // P20.6
	r := rand.New(rand.NewSource(29))
	for _, a := range grids() {
		s, n := widthByWords(a), 4*widthByWords(a)
		for _, at := range segments(a) {
			for _, x := range placesOf(a, at) {
				column := at.slice*s + x
				for _, j := range numbers(r) {
					l, c, e := argon.Refer(a, at.pass, at.slice, at.lane, x, j)
					what := fmt.Sprintf("%+v, %+v, place %d, j %x: %d %d %d", a, at, x, j, l, c, e)
					switch {
					case e != api.OK || l < 0 || l >= a.Lanes || c < 0 || c >= n:
						t.Errorf("%s, which is no block", what)
					case l == at.lane && c == column:
						t.Errorf("%s, the block itself", what)
					case l == at.lane && c == (column+n-1)%n:
						t.Errorf("%s, the one ahead of it", what)
					case l != at.lane && c/s == at.slice:
						t.Errorf("%s, of the same slice of another lane", what)
					case at.pass == 0 && c >= column:
						t.Errorf("%s, which isn't laid down yet", what)
					}
				}
			}
		}
	}
}

func TestEachOtherBlockIsDrawn(t *testing.T) { // P20.3, P20.6: what may be taken is taken by some number
	a := setting(api.ArgonD, 32, 2, 2) // 16 columns, 4 of a segment
	for _, at := range []place{{0, 2, 1, 3}, {1, 0, 0, 2}, {1, 1, 1, 0}, {1, 3, 0, 1}} {
		seen := map[[2]int]bool{}
		for j1 := range 1 << 12 {
			for j2 := range uint64(2) {
				l, c, e := argon.Refer(a, at.pass, at.slice, at.lane, at.x, uint64(j1)<<20|1<<20-1|j2<<32)
				if e != api.OK {
					t.Fatal(e)
				}
				seen[[2]int{l, c}] = true
			}
		}
		want := 0
		for l := range 2 {
			for _, c := range takable(a, at.pass, at.slice, at.lane, at.x, l) {
				want++
				if !seen[[2]int{l, c}] {
					t.Errorf("%+v: lane %d, column %d is never drawn", at, l, c)
				}
			}
		}
		if len(seen) != want {
			t.Errorf("%+v: %d blocks are drawn, want %d", at, len(seen), want)
		}
	}
}

// fillByCalls is the memory by Addresses and Refer, each slice's lanes in the order that one asks for.
func fillByCalls(t *testing.T, a api.Argon, start []byte, order func() []int) filled {
	t.Helper()
	m := begunByWords(a, start)
	s := widthByWords(a)
	for pass := range a.Passes {
		for slice := range 4 {
			for _, lane := range order() {
				list, _ := argon.Addresses(a, pass, slice, lane)
				for x := range s {
					if pass == 0 && slice == 0 && x < 2 {
						continue
					}
					j := list[x]
					if !byAddresses(a.Kind, pass, slice) {
						j = m.drawn(a, pass, slice, lane, x)
					}
					l, c, e := argon.Refer(a, pass, slice, lane, x, j)
					if e != api.OK {
						t.Fatalf("%+v: error %d", a, e)
					}
					m.lay(pass, lane, slice*s+x, m[l][c])
				}
			}
		}
	}
	return m
}

func TestLanesInAnyOrder(t *testing.T) { // P20.6
	t.Parallel()
	r := rand.New(rand.NewSource(30))
	for _, a := range memories() {
		backwards := func() []int {
			list := r.Perm(a.Lanes)
			slices.Sort(list)
			slices.Reverse(list)
			return list
		}
		start := someBytes(r, 64)
		got, e := argon.Fill(a, start)
		wantSame(t, fmt.Sprintf("Fill of %+v, backwards", a), got, e, fillByCalls(t, a, start, backwards))
		wantSame(t, fmt.Sprintf("Fill of %+v, by chance", a), got, e, fillByCalls(t, a, start, func() []int { return r.Perm(a.Lanes) }))
	}
}

// read tells which blocks each block of the first so many slices is made of, by addresses alone: nothing that is hashed is handed in.
func read(a api.Argon, slicesRead int) map[place][2]int {
	list := map[place][2]int{}
	for i := range slicesRead {
		for lane := range a.Lanes {
			numbers, _ := argon.Addresses(a, i/4, i%4, lane)
			for x, j := range numbers {
				if l, c, e := argon.Refer(a, i/4, i%4, lane, x, j); e == api.OK {
					list[place{i / 4, i % 4, lane, x}] = [2]int{l, c}
				}
			}
		}
	}
	return list
}

func TestReadsHangOnNoWord(t *testing.T) { // P20.6: one list of reads leads to the memory of each word
	r := rand.New(rand.NewSource(31))
	a := setting(api.ArgonI, 70, 3, 3)
	reads := read(a, 12)
	s := widthByWords(a)
	for range 6 {
		in := someWords(r)
		start, _ := argon.Start(a, in[0], in[1], in[2], in[3])
		m := begunByWords(a, start)
		for i := range 12 {
			for lane := range a.Lanes {
				for x := range s {
					if from, is := reads[place{i / 4, i % 4, lane, x}]; is {
						m.lay(i/4, lane, i%4*s+x, m[from[0]][from[1]])
					}
				}
			}
		}
		got, e := argon.Fill(a, start)
		wantSame(t, fmt.Sprintf("Fill of %+v by one list of reads", a), got, e, m)
	}
}

func TestFirstHalfPassOfID(t *testing.T) { // P20.6: by addresses as well, and by data from there on
	r := rand.New(rand.NewSource(32))
	a := setting(api.ArgonID, 64, 1, 2)
	reads := read(a, 4)
	s := widthByWords(a)
	unlike := 0
	for range 4 {
		got, e := argon.Fill(a, someBytes(r, 64))
		if e != api.OK {
			t.Fatal(e)
		}
		m := filled{got[:4*s], got[4*s:]}
		for at, from := range reads {
			column := at.slice*s + at.x
			right := mix(m.ahead(at.lane, column), m[from[0]][from[1]])
			same := bytes.Equal(m[at.lane][column], right)
			if at.slice < 2 && !same {
				t.Errorf("%+v is not made of the block at its address", at)
			}
			if at.slice >= 2 && !same {
				unlike++
			}
		}
	}
	if unlike < 64 {
		t.Errorf("of the second half %d blocks are drawn by data, want more", unlike)
	}
}

func TestMemoryCountsAsAskedFor(t *testing.T) { // P20.6: though the columns are as many
	in := examples()
	for kind := range 3 {
		var starts, tags [][]byte
		for memory := 32; memory < 48; memory++ {
			a := setting(kind, memory, 1, 4)
			if n, e := argon.Columns(a); n != 8 || e != api.OK {
				t.Errorf("%d blocks: %d columns", memory, n)
			}
			start, _ := argon.Start(a, in[0], in[1], in[2], in[3])
			tag, _ := argon.Hash(a, in[0], in[1], in[2], in[3])
			if slices.ContainsFunc(starts, func(b []byte) bool { return bytes.Equal(b, start) }) || slices.ContainsFunc(tags, func(b []byte) bool { return bytes.Equal(b, tag) }) {
				t.Errorf("%d blocks: the start or the tag of fewer", memory)
			}
			starts, tags = append(starts, start), append(tags, tag)
		}
	}
}
