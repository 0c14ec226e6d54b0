package argon_test

import (
	"bytes"
	"fmt"
	"slices"
	"sync"
	"testing"

	"quern/api"
	"quern/argon"
)

// listCall is a call that takes lists and answers lists, of bytes or of blocks.
type listCall struct {
	what string
	args [][]byte
	do   func(args [][]byte) ([][]byte, api.Errno)
}

func one(b []byte, e api.Errno) ([][]byte, api.Errno) { return [][]byte{b}, e }

func listCalls() []listCall {
	var list []listCall
	for kind := range 3 {
		a := setting(kind, 40, 2, 4)
		in := examples()
		add := func(what string, args [][]byte, do func(g [][]byte) ([][]byte, api.Errno)) {
			list = append(list, listCall{fmt.Sprintf("%s, kind %d", what, kind), args, do})
		}
		start := func(g [][]byte) ([][]byte, api.Errno) { return one(argon.Start(a, g[0], g[1], g[2], g[3])) }
		hash := func(g [][]byte) ([][]byte, api.Errno) { return one(argon.Hash(a, g[0], g[1], g[2], g[3])) }
		beside := func(g [][]byte) ([][]byte, api.Errno) { return one(argon.Beside(a, g[0], g[1], g[2], g[3])) }
		verify := func(g [][]byte) ([][]byte, api.Errno) {
			is, e := argon.Verify(a, g[0], g[1], g[2], g[3], g[4])
			return [][]byte{fmt.Appendf(nil, "%t", is)}, e
		}
		tag, _ := argon.Hash(a, in[0], in[1], in[2], in[3])
		add("Start", in[:], start)
		add("Hash", in[:], hash)
		add("Beside", in[:], beside)
		add("Verify", [][]byte{tag, in[0], in[1], in[2], in[3]}, verify)
		add("Verify of another tag", [][]byte{rising(32), in[0], in[1], in[2], in[3]}, verify)
		add("Fill", [][]byte{pattern(64)}, func(g [][]byte) ([][]byte, api.Errno) { return argon.Fill(a, g[0]) })
		add("Check", [][]byte{in[1]}, func(g [][]byte) ([][]byte, api.Errno) { return nil, argon.Check(a, g[0]) })
		add("Start refused", [][]byte{in[0], in[1][:7], in[2], in[3]}, start)
		add("Hash refused", [][]byte{in[0], in[1], rising(65), in[3]}, hash)
		add("Beside refused", [][]byte{in[0], in[1], in[2], rising(1025)}, beside)
		add("Verify refused", [][]byte{rising(31), in[0], in[1], in[2], in[3]}, verify)
		add("Fill refused", [][]byte{rising(63)}, func(g [][]byte) ([][]byte, api.Errno) { return argon.Fill(a, g[0]) })
	}
	return list
}

func clones(list [][]byte) [][]byte {
	var out [][]byte
	for _, b := range list {
		out = append(out, bytes.Clone(b))
	}
	return out
}

func same(a, b [][]byte) bool { return slices.EqualFunc(a, b, bytes.Equal) }

// spoilAll overwrites all lists, and what stands behind the last one.
func spoilAll(list [][]byte) {
	for _, b := range list {
		spoil(b)
	}
	whole := list[:cap(list)]
	for i := range whole {
		whole[i] = nil
	}
}

func TestArgumentsStay(t *testing.T) { // P4
	for _, c := range listCalls() {
		var given [][]byte
		var stills []func() bool
		for _, a := range c.args {
			list, still := roomy(a)
			given, stills = append(given, list), append(stills, still)
		}
		right, e := c.do(clones(c.args))
		got, f := c.do(given)
		if e != f || !same(got, right) {
			t.Errorf("%s: error %d, with room behind the ends %d, or other bytes", c.what, e, f)
		}
		spoilAll(got)
		for i, still := range stills {
			if !still() {
				t.Errorf("%s: argument %d has changed", c.what, i)
			}
		}
	}
}

func TestAnswersAreNew(t *testing.T) { // P4, P5
	for _, c := range listCalls() {
		first, _ := c.do(clones(c.args))
		before := clones(first)
		second, _ := c.do(clones(c.args))
		spoilAll(first)
		if !same(second, before) {
			t.Errorf("%s: an answer changes with the one ahead of it", c.what)
		}
		third, _ := c.do(clones(c.args))
		if !same(third, before) {
			t.Errorf("%s: a changed answer changes later ones", c.what)
		}
	}
}

func TestNothingIsKept(t *testing.T) { // P4
	for _, c := range listCalls() {
		given := clones(c.args)
		got, _ := c.do(given)
		before := clones(got)
		for _, g := range given {
			spoil(g)
		}
		if !same(got, before) {
			t.Errorf("%s: the answer changes with what was handed in", c.what)
		}
		again, _ := c.do(clones(c.args))
		if !same(again, before) {
			t.Errorf("%s: what was handed in and changed changes later answers", c.what)
		}
	}
}

func TestBlocksShareNone(t *testing.T) { // P4, P20.4
	for kind := range 3 {
		got, e := argon.Fill(setting(kind, 40, 2, 4), pattern(64))
		if e != api.OK || len(got) != 40-8 {
			t.Fatalf("%d blocks, error %d", len(got), e)
		}
		right := clones(got)
		for i := range got {
			spoil(got[i])
			for k := range got {
				if k != i && !bytes.Equal(got[k], right[k]) {
					t.Fatalf("block %d changes with block %d", k, i)
				}
			}
			spoil(got[i])
		}
	}
}

func TestNumbersAreNew(t *testing.T) { // P4, P20.2
	for _, a := range grids() {
		first, e := argon.Addresses(a, 0, 3, 0)
		if e != api.OK {
			t.Fatal(e)
		}
		before := slices.Clone(first)
		second, _ := argon.Addresses(a, 0, 3, 0)
		whole := first[:cap(first)]
		for i := range whole {
			whole[i] = ^whole[i]
		}
		if !slices.Equal(second, before) {
			t.Errorf("%+v: numbers change with those ahead of them", a)
		}
		third, _ := argon.Addresses(a, 0, 3, 0)
		if !slices.Equal(third, before) {
			t.Errorf("%+v: changed numbers change later ones", a)
		}
	}
}

func TestTheSameListAtSeveralPlaces(t *testing.T) { // P4, P20.5
	a := setting(api.ArgonID, 40, 2, 4)
	x, still := roomy(pattern(32))
	in := words{x, x, x, x}
	right := hashByWords(t, a, words{pattern(32), pattern(32), pattern(32), pattern(32)})
	wantTag(t, a, in, right)
	if is, e := argon.Verify(a, x, x, x, x, x); is || e != api.OK {
		t.Errorf("Verify: %t %d", is, e)
	}
	if !still() {
		t.Error("what was handed in has changed")
	}
	// Lists that lie in one another.
	whole, stillWhole := roomy(pattern(200))
	in = words{whole[10:150], whole[20:60], whole[:50], whole[140:200]}
	wantTag(t, a, in, hashByWords(t, a, words{pattern(200)[10:150], pattern(200)[20:60], pattern(200)[:50], pattern(200)[140:]}))
	if !stillWhole() {
		t.Error("what was handed in has changed")
	}
}

func TestSideBySide(t *testing.T) { // P5
	list := listCalls()
	var right [][][]byte
	for _, c := range list {
		b, _ := c.do(c.args)
		right = append(right, b)
	}
	var all sync.WaitGroup
	for g := range 8 {
		all.Add(1)
		go func() {
			defer all.Done()
			for i := range list {
				at := (i*7 + g*5) % len(list)
				got, _ := list[at].do(list[at].args)
				if !same(got, right[at]) {
					t.Errorf("%s, side by side: another answer", list[at].what)
				}
			}
		}()
	}
	all.Wait()
}
