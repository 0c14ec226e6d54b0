package clash

import (
	"bytes"
	"fmt"
	"slices"
	"sync"
	"testing"

	"quern/api"
)

// found is two messages with one digest, and how to ask for their clash.
type found struct {
	what string
	a, b []byte
	ask  func(tree api.Tree, a, b []byte) (api.Call, api.Call, api.Errno)
	tree api.Tree // of lanes its lists alone
}

// pairs are clashes of roots, of nodes between and of leaves, and of lanes.
func pairs(t testing.TB) []found {
	t.Helper()
	var list []found
	for _, k := range kinds {
		x := dressed(weak(k, 1, 2, 255, 4))
		a, b, _, e := Search(x, 1<<40, 300)
		if e != api.OK {
			t.Fatalf("Search: error %d", e)
		}
		data := pattern(30)
		list = append(list,
			found{"roots", a, b, Tree, x},
			found{"nodes between", data, twin(t, x, data, 1, 1), Tree, x},
			found{"leaves", data, twin(t, x, data, 0, 3), Tree, x},
			found{"the last leaf", data, twin(t, x, data, 0, 7), Tree, x})
		lanes := func(tree api.Tree, a, b []byte) (api.Call, api.Call, api.Errno) {
			return Lanes(tree.Kind, 1, tree.Key, tree.Salt, tree.Personal, a, b)
		}
		s := setting{k: k, digest: 1, key: x.Key, salt: x.Salt, personal: x.Personal}
		digest := s.build(t, data).digest()
		for i := 0; ; i++ {
			if m := Message(i); bytes.Equal(s.build(t, m).digest(), digest) {
				list = append(list, found{"lanes", data, m, lanes, x})
				break
			}
		}
	}
	return list
}

// lists tells all lists of both calls of an answer.
func (f found) lists(t testing.TB, tree api.Tree, a, b []byte) [][]byte {
	t.Helper()
	x, y, e := f.ask(tree, a, b)
	if e != api.OK {
		t.Fatalf("%s: error %d", f.what, e)
	}
	return [][]byte{x.Block, x.Key, x.Data, y.Block, y.Key, y.Data}
}

func cloneAll(lists [][]byte) [][]byte {
	var clones [][]byte
	for _, b := range lists {
		clones = append(clones, bytes.Clone(b))
	}
	return clones
}

func wantLists(t testing.TB, what string, got, right [][]byte) {
	t.Helper()
	if !slices.EqualFunc(got, right, bytes.Equal) {
		t.Errorf("%s: %x, want %x", what, got, right)
	}
}

func TestWhatIsHandedInAndOut(t *testing.T) { // P4: arguments stay as they were, and no two lists share memory, spare room too
	for _, f := range pairs(t) {
		tree, stillTree := roomyTree(f.tree)
		a, stillA := roomy(f.a)
		b, stillB := roomy(f.b)
		first := f.lists(t, tree, a, b)
		before := cloneAll(first)
		second := f.lists(t, tree, a, b)
		for i := range first {
			if !bytes.Equal(first[i], before[i]) {
				t.Errorf("%s: list %d shares memory with another one", f.what, i)
			}
			spoil(first[i])
		}
		if !stillTree() || !stillA() || !stillB() {
			t.Errorf("%s: what was handed in has changed", f.what)
		}
		wantLists(t, f.what+", asked again", second, before)
		wantLists(t, f.what+", asked once more", f.lists(t, tree, a, b), before)
		row, at, e := Depth(tree, a, b)
		again, place, why := Depth(f.tree, f.a, f.b)
		if row != again || at != place || e != why || !stillTree() || !stillA() || !stillB() {
			t.Errorf("%s: Depth %d, %d, error %d, and %d, %d, error %d", f.what, row, at, e, again, place, why)
		}
	}
}

func TestNothingIsKept(t *testing.T) { // P4, P5: what is changed behind a call is seen by the next one, and by no answer that was given
	for _, f := range pairs(t) {
		tree, _ := roomyTree(f.tree)
		a, _ := roomy(f.a)
		b, _ := roomy(f.b)
		given := f.lists(t, tree, a, b)
		before := cloneAll(given)
		for _, b := range [][]byte{a, b, tree.Key, tree.Salt, tree.Personal} {
			spoil(b)
		}
		wantLists(t, f.what, given, before)
		copy(a, f.a)
		copy(b, f.a)
		copy(tree.Key, f.tree.Key)
		copy(tree.Salt, f.tree.Salt)
		copy(tree.Personal, f.tree.Personal)
		if len(a) == len(b) {
			if x, y, e := f.ask(tree, a, b); e != api.ErrSame || !isZero(x) || !isZero(y) {
				t.Errorf("%s: error %d of the same", f.what, e)
			}
		}
		copy(b, f.b)
		wantLists(t, f.what+", put back", f.lists(t, tree, a, b), before)
	}
}

func TestOneMemoryForBoth(t *testing.T) { // P4: two messages may lie in one list, one over the other
	for _, k := range kinds {
		x := weak(k, 1, 2, 255, 3)
		whole := pattern(500)
		found := 0
		for n := 2; n < 500; n++ {
			a, b := whole[:n], whole[n/2:n]
			if bytes.Equal(build(t, x, a).digest(), build(t, x, b).digest()) {
				found++
				wantPair(t, "one memory", x, a, b)
			}
		}
		if !bytes.Equal(whole, pattern(500)) {
			t.Errorf("the list has changed")
		}
		if found == 0 {
			t.Errorf("kind %d: no pair", k)
		}
	}
}

func TestCallsThatAreHandedIn(t *testing.T) { // P4: Unlike and Check change nothing
	for _, k := range kinds {
		for _, data := range [][]byte{nil, pattern(20), pattern(300)} {
			c, other := ordinary(k), ordinary(k)
			c.Data, other.Data = data, pattern(21)
			a, stillA := roomyCall(c)
			b, stillB := roomyCall(other)
			for range 2 {
				wantUnlike(t, "data", a, b, true)
				ok, e := Check(a, b)
				wantCheck(t, "data", ok, e, false)
				ok, e = Check(a, a)
				wantCheck(t, "itself", ok, e, false)
			}
			if !stillA() || !stillB() {
				t.Errorf("a call that was handed in has changed")
			}
		}
	}
}

func TestMessagesAreNew(t *testing.T) { // P4: what Message and Search answer, spoilt, leaves later answers as they are
	for _, i := range []int{0, 7, 10, 99, 100, 123456, -5, -100000} {
		first, second := Message(i), Message(i)
		spoil(first)
		if right := fmt.Sprint(i); string(second) != right || string(Message(i)) != right {
			t.Errorf("Message(%d): %q, then %q", i, second, Message(i))
		}
	}
	for _, k := range kinds {
		x, still := roomyTree(dressed(weak(k, 1, 2, 255, 4)))
		for _, from := range []int{0, 5, 1 << 40} {
			a, b, n, e := Search(x, from, 300)
			earlier, later := string(a), string(b)
			spoil(a)
			if e != api.OK || string(b) != later {
				t.Errorf("the later message was %q, is %q, error %d", later, b, e)
			}
			spoil(b)
			c, d, m, e := Search(x, from, 300)
			if string(c) != earlier || string(d) != later || m != n || e != api.OK || !still() {
				t.Errorf("%q, %q, %d, error %d, want %q, %q, %d", c, d, m, e, earlier, later, n)
			}
		}
	}
}

func TestSideBySide(t *testing.T) { // P5: calls that run at the same time know nothing of one another
	list := pairs(t)
	var right [][][]byte
	for _, f := range list {
		right = append(right, f.lists(t, f.tree, f.a, f.b))
	}
	answers := make([][2]api.Call, 8*len(list))
	var all sync.WaitGroup
	for i := range answers {
		all.Go(func() {
			f := list[i%len(list)]
			answers[i][0], answers[i][1], _ = f.ask(f.tree, f.a, f.b)
		})
	}
	all.Wait()
	for i, c := range answers {
		lists := [][]byte{c[0].Block, c[0].Key, c[0].Data, c[1].Block, c[1].Key, c[1].Data}
		wantLists(t, "side by side", lists, right[i%len(list)])
	}
}
