package long_test

import (
	"bytes"
	"fmt"
	"sync"
	"testing"

	"quern/api"
	"quern/long"
)

// call is one of the package that answers a list, of blocks or of data.
type call struct {
	what string
	args [][]byte
	do   func(args [][]byte) ([]byte, api.Errno)
}

func xor(a [][]byte) ([]byte, api.Errno)  { return long.Xor(a[0], a[1]) }
func mix(a [][]byte) ([]byte, api.Errno)  { return long.Mix(a[0], a[1]) }
func over(a [][]byte) ([]byte, api.Errno) { return long.Over(a[0], a[1], a[2]) }

func calls() []call {
	x, y, old := pattern(1024), rising(1024), bytes.Repeat([]byte{0x5a}, 1024)
	list := []call{
		{"Xor", [][]byte{x, y}, xor},
		{"Mix", [][]byte{x, y}, mix},
		{"Over", [][]byte{x, y, old}, over},
		{"Xor with noughts", [][]byte{x, make([]byte, 1024)}, xor},
		{"Over of like blocks", [][]byte{y, y, old}, over},
		{"Xor refused", [][]byte{x, y[:1023]}, xor},
		{"Mix refused", [][]byte{x[:1023], y}, mix},
		{"Over refused", [][]byte{x, y, old[:1023]}, over},
	}
	for _, size := range []int{0, 1, 32, 63, 64, 65, 96, 97, 1024, 5000} {
		for _, n := range []int{0, 1, 124, 125, 129, 1000} {
			list = append(list, call{fmt.Sprintf("Hash(%d) of %d bytes", size, n), [][]byte{pattern(n)}, func(a [][]byte) ([]byte, api.Errno) {
				return long.Hash(size, a[0])
			}})
		}
	}
	return list
}

func TestArgumentsStay(t *testing.T) { // P4
	for _, c := range calls() {
		var given [][]byte
		var stills []func() bool
		for _, a := range c.args {
			list, still := roomy(a)
			given, stills = append(given, list), append(stills, still)
		}
		right, e := c.do(c.args)
		got, f := c.do(given)
		if e != f || !bytes.Equal(got, right) {
			t.Errorf("%s: %s %d, with room behind the ends %s %d", c.what, short(right), e, short(got), f)
		}
		spoil(got)
		for i, still := range stills {
			if !still() {
				t.Errorf("%s: argument %d has changed", c.what, i)
			}
		}
	}
}

func TestAnswersAreNew(t *testing.T) { // P4, P5
	for _, c := range calls() {
		first, _ := c.do(c.args)
		before := bytes.Clone(first)
		second, _ := c.do(c.args)
		spoil(first)
		if !bytes.Equal(second, before) {
			t.Errorf("%s: an answer changes with the one ahead of it", c.what)
		}
		third, _ := c.do(c.args)
		if !bytes.Equal(third, before) {
			t.Errorf("%s: a changed answer changes later ones", c.what)
		}
	}
}

func TestNothingIsKept(t *testing.T) { // P4
	for _, c := range calls() {
		var given [][]byte
		for _, a := range c.args {
			given = append(given, bytes.Clone(a))
		}
		got, _ := c.do(given)
		before := bytes.Clone(got)
		for _, g := range given {
			spoil(g)
		}
		if !bytes.Equal(got, before) {
			t.Errorf("%s: the answer changes with what was handed in", c.what)
		}
		again, _ := c.do(c.args)
		if !bytes.Equal(again, before) {
			t.Errorf("%s: what was handed in and changed changes later answers", c.what)
		}
	}
}

func TestTheSameListAtSeveralPlaces(t *testing.T) { // LO3, LO4, P4
	x, still := roomy(pattern(1024))
	y, stillY := roomy(rising(1024))
	noughts := make([]byte, 1024)
	for _, c := range []struct {
		what  string
		do    func([][]byte) ([]byte, api.Errno)
		args  [][]byte
		right []byte
	}{
		{"Xor(x, x)", xor, [][]byte{x, x}, noughts},
		{"Mix(x, x)", mix, [][]byte{x, x}, noughts},
		{"Over(x, x, x)", over, [][]byte{x, x, x}, pattern(1024)},
		{"Over(x, x, y)", over, [][]byte{x, x, y}, rising(1024)},
		{"Over(x, y, x)", over, [][]byte{x, y, x}, xorByWords(mixByWords(x, y), x)},
		{"Over(x, y, y)", over, [][]byte{x, y, y}, xorByWords(mixByWords(x, y), y)},
	} {
		got, e := c.do(c.args)
		wantBytes(t, c.what, got, e, c.right)
		spoil(got)
		if !still() || !stillY() {
			t.Fatalf("%s: what was handed in has changed", c.what)
		}
	}
}

func TestListsThatShareMemory(t *testing.T) { // LO3, P4
	whole, still := roomy(pattern(2100))
	for _, at := range []int{0, 1, 7, 8, 128, 512, 1023, 1024} {
		x, y, old := whole[at:at+1024], whole[1024-at:2048-at], whole[50:1074]
		wantAll(t, fmt.Sprintf("from place %d on", at), x, y, old)
		got, _ := long.Over(x, y, old)
		spoil(got)
		if !still() {
			t.Fatalf("from place %d on: what was handed in has changed", at)
		}
	}
}

func TestSideBySide(t *testing.T) { // P5
	list := calls()
	var right [][]byte
	for _, c := range list {
		b, _ := c.do(c.args)
		right = append(right, b)
	}
	var hands sync.WaitGroup
	for hand := range 8 {
		hands.Go(func() {
			for i := range list {
				at := (i*(2*hand+1) + hand) % len(list)
				got, _ := list[at].do(list[at].args)
				if !bytes.Equal(got, right[at]) {
					t.Errorf("%s: another answer beside other hands", list[at].what)
				}
				spoil(got)
			}
		})
	}
	hands.Wait()
}
