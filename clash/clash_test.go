package clash

import (
	"bytes"
	"fmt"
	"math"
	"testing"

	"quern/api"
	"quern/node"
)

// ordinary tells a call that node.Call takes, with a key.
func ordinary(k api.Kind) api.Call {
	tree := dressed(weak(k, 7, 2, 3, 4))
	return api.Call{Kind: k, Block: block(tree, 0, 3), Key: tree.Key, Out: 5, Data: pattern(20)}
}

// changed are a call with each of its fields changed alone.
func changed(c api.Call) map[string]api.Call {
	list := map[string]api.Call{}
	add := func(what string, change func(*api.Call)) {
		other := c
		change(&other)
		list[what] = other
	}
	for _, k := range append(noKinds, api.Big+api.Small-c.Kind) {
		add(fmt.Sprint("kind ", k), func(c *api.Call) { c.Kind = k })
	}
	for _, n := range []int{0, 1, c.Out - 1, c.Out + 1, -c.Out, 64, math.MinInt, math.MaxInt} {
		add(fmt.Sprint("out ", n), func(c *api.Call) { c.Out = n })
	}
	add("last", func(c *api.Call) { c.Last = !c.Last })
	lists := map[string]func(*api.Call) *[]byte{
		"block": func(c *api.Call) *[]byte { return &c.Block },
		"key":   func(c *api.Call) *[]byte { return &c.Key },
		"data":  func(c *api.Call) *[]byte { return &c.Data },
	}
	for what, of := range lists {
		for i := range *of(&c) {
			add(fmt.Sprint(what, " in byte ", i), func(c *api.Call) {
				b := bytes.Clone(*of(c))
				b[i] ^= 1 << (i % 8)
				*of(c) = b
			})
		}
		add(what+" without its last byte", func(c *api.Call) { b := of(c); *b = (*b)[:len(*b)-1] })
		add(what+" without its first byte", func(c *api.Call) { b := of(c); *b = (*b)[1:] })
		add(what+" with a nought more", func(c *api.Call) { b := of(c); *b = append(bytes.Clone(*b), 0) })
		add(what+" none", func(c *api.Call) { *of(c) = nil })
		add(what+" empty", func(c *api.Call) { *of(c) = []byte{} })
	}
	// Bytes that move from one list to the next leave them the same when they are read as one.
	add("a byte moved from the key to the data", func(c *api.Call) {
		last := len(c.Key) - 1
		c.Key, c.Data = c.Key[:last], append([]byte{c.Key[last]}, c.Data...)
	})
	return list
}

func wantUnlike(t *testing.T, what string, a, b api.Call, right bool) {
	t.Helper()
	if Unlike(a, b) != right || Unlike(b, a) != right {
		t.Errorf("Unlike, %s: %v, exchanged %v, want %v", what, Unlike(a, b), Unlike(b, a), right)
	}
}

func TestUnlikeInOneField(t *testing.T) { // P12.1: each field alone makes two calls unlike
	for _, k := range kinds {
		c := ordinary(k)
		for what, other := range changed(c) {
			wantUnlike(t, what, c, other, true)
			wantUnlike(t, what+", with itself", other, other, false)
		}
	}
}

func TestUnlikeInAllFields(t *testing.T) { // P12.1
	wantUnlike(t, "nothing told", api.Call{}, api.Call{}, false)
	for _, k := range kinds {
		c := ordinary(k)
		wantUnlike(t, "nothing told", api.Call{}, c, true)
		wantUnlike(t, "kinds", c, ordinary(api.Big+api.Small-k), true)
		// With memory of its own, and room behind the ends that differs.
		other, _ := roomyCall(c)
		wantUnlike(t, "other memory", c, other, false)
		wantUnlike(t, "itself", c, c, false)
		last := c
		last.Last = true
		wantUnlike(t, "the last one", last, last, false)
	}
}

func TestUnlikeOfNoBytes(t *testing.T) { // P12.1, P3: a key, data and a block without a byte are none
	for _, k := range kinds {
		none := ordinary(k)
		none.Block, none.Key, none.Data = nil, nil, nil
		for i := range 8 {
			empty := none
			if i&1 != 0 {
				empty.Block = []byte{}
			}
			if i&2 != 0 {
				empty.Key = []byte{}
			}
			if i&4 != 0 {
				empty.Data = rising(3)[:0]
			}
			wantUnlike(t, fmt.Sprint("lists of no bytes, ", i), none, empty, false)
		}
		for _, key := range [][]byte{nil, {}} {
			c, other := ordinary(k), ordinary(k)
			c.Key, other.Key = nil, key
			wantUnlike(t, "a key of no bytes", c, other, false)
			ok, e := Check(c, other)
			wantCheck(t, "a key of no bytes", ok, e, false)
			wantUnlike(t, "a key against none", c, ordinary(k), true)
			other.Key = []byte{0}
			wantUnlike(t, "a key of a nought against none", c, other, true)
		}
	}
}

// refused are calls that node.Call does not take, by its errors.
func refused(k api.Kind) map[string]api.Call {
	list := map[string]api.Call{}
	for what, c := range changed(ordinary(k)) {
		if _, e := node.Call(c); e != api.OK {
			list[what] = c
		}
	}
	return list
}

func TestCheckRefuses(t *testing.T) { // P12.1: the error of node.Call of the first, then of the second
	for _, k := range kinds {
		good := ordinary(k)
		for what, wrong := range refused(k) {
			_, why := node.Call(wrong)
			wantRefused(t, what+" in the first", wrong, good, why)
			wantRefused(t, what+" in the second", good, wrong, why)
			wantRefused(t, what+" in both", wrong, wrong, why)
			for what2, wrong2 := range refused(k) {
				wantRefused(t, what+" ahead of "+what2, wrong, wrong2, why)
			}
		}
	}
}

func wantRefused(t *testing.T, what string, a, b api.Call, why api.Errno) {
	t.Helper()
	if ok, e := Check(a, b); ok || e != why {
		t.Errorf("Check, %s: %v, error %d, want error %d", what, ok, e, why)
	}
}

func TestCheckErrors(t *testing.T) { // P12.1: each of the errors, as the words of chapter 5 have them
	for _, k := range kinds {
		good := ordinary(k)
		kind, form, key, out := good, good, good, good
		kind.Kind, form.Block, key.Key, out.Out = 0, good.Block[1:], good.Key[1:], 0
		calls, whys := []api.Call{kind, form, key, out}, []api.Errno{api.ErrArg, api.ErrForm, api.ErrKey, api.ErrArg}
		for i, wrong := range calls {
			wantRefused(t, "first", wrong, good, whys[i])
			wantRefused(t, "second", good, wrong, whys[i])
			for j, other := range calls {
				wantRefused(t, fmt.Sprint("both, ", i, j), wrong, other, whys[i])
			}
		}
		wantRefused(t, "nothing told", api.Call{}, api.Call{}, api.ErrArg)
	}
}

func TestCheckOfOtherOutputs(t *testing.T) { // P12.1: unlike calls whose outputs are unlike
	for _, k := range kinds {
		c := ordinary(k)
		c.Out = sizesOf(k).most
		ok, e := Check(c, c)
		wantCheck(t, "itself", ok, e, false)
		other, _ := roomyCall(c)
		ok, e = Check(c, other)
		wantCheck(t, "other memory", ok, e, false)
		for what, other := range changed(c) {
			if _, e := node.Call(other); e == api.OK {
				ok, e := Check(c, other)
				wantCheck(t, what, ok, e, false)
			}
		}
		// One output begins the other: they are two all the same.
		short := c
		short.Out = 1
		ok, e = Check(short, c)
		wantCheck(t, "a shorter output", ok, e, false)
		ok, e = Check(c, short)
		wantCheck(t, "a longer output", ok, e, false)
	}
}

func TestCheckOfOneOutput(t *testing.T) { // P12.1: of calls that give one byte many have the same
	for _, k := range kinds {
		var calls []api.Call
		for i := range 60 {
			c := ordinary(k)
			c.Out, c.Data = 1, pattern(i)
			calls = append(calls, c)
			c.Last = true
			calls = append(calls, c)
			c.Key = nil
			calls = append(calls, c)
		}
		clashes := 0
		for i, a := range calls {
			for j, b := range calls {
				right := i != j && bytes.Equal(output(t, a), output(t, b))
				if right {
					clashes++
				}
				ok, e := Check(a, b)
				wantCheck(t, fmt.Sprintf("calls %d and %d", i, j), ok, e, right)
			}
		}
		if clashes < 20 {
			t.Errorf("kind %d: %d clashes", k, clashes)
		}
	}
}

func TestCheckOfUnlikeKinds(t *testing.T) { // P12.1: one output of two kinds is one
	big, small := ordinary(api.Big), ordinary(api.Small)
	big.Out, small.Out = 1, 1
	found := 0
	for i := range 600 {
		small.Data = Message(i)
		right := bytes.Equal(output(t, big), output(t, small))
		if right {
			found++
		}
		ok, e := Check(big, small)
		wantCheck(t, "two kinds", ok, e, right)
	}
	if found == 0 {
		t.Errorf("no clash of two kinds")
	}
}

func TestCheckOfWrittenKey(t *testing.T) { // P12.1: the key's block, written as data, is worth as much: whole outputs that are one
	for _, k := range kinds {
		c := ordinary(k)
		c.Out = sizesOf(k).most
		written := c
		whole := make([]byte, sizesOf(k).block)
		copy(whole, c.Key)
		written.Key, written.Data = nil, append(whole, c.Data...)
		wantClash(t, "a key that is written", c, written)
	}
}
