package crew

import (
	"bytes"
	"fmt"
	"slices"
	"testing"

	"quern/api"
)

// roomy tells a copy of a list with marks in the room behind its end, and a function that tells whether list and room are as they were.
func roomy(list []byte) ([]byte, func() bool) {
	whole := append(bytes.Clone(list), bytes.Repeat([]byte{0xa5}, 300)...)
	before := bytes.Clone(whole)
	return whole[:len(list)], func() bool { return bytes.Equal(whole, before) }
}

// roomyTree lays a tree's lists likewise.
func roomyTree(t api.Tree) (api.Tree, func() bool) {
	var stills [3]func() bool
	t.Key, stills[0] = roomy(t.Key)
	t.Salt, stills[1] = roomy(t.Salt)
	t.Personal, stills[2] = roomy(t.Personal)
	return t, func() bool { return stills[0]() && stills[1]() && stills[2]() }
}

// sameMemory tells whether two lists are the same bytes of memory, with the same room.
func sameMemory(a, b []byte) bool {
	return len(a) == len(b) && cap(a) == cap(b) && &a[:1][0] == &b[:1][0]
}

// roomyLists lays a list of lists likewise, the list's own room with marks too.
func roomyLists(list [][]byte) ([][]byte, func() bool) {
	var whole [][]byte
	var stills []func() bool
	for _, b := range append(slices.Clone(list), []byte("mark"), []byte("mark")) {
		laid, still := roomy(b)
		whole, stills = append(whole, laid), append(stills, still)
	}
	before := slices.Clone(whole)
	return whole[:len(list)], func() bool {
		for i := range whole {
			if !sameMemory(whole[i], before[i]) || !stills[i]() {
				return false
			}
		}
		return true
	}
}

// spoil overwrites a list and the room behind its end.
func spoil[T any](list []T, by T) {
	whole := list[:cap(list)]
	for i := range whole {
		whole[i] = by
	}
}

// wantApart spoils each list of an answer by itself, and holds that the others are as they were.
func wantApart(t *testing.T, what string, list [][]byte) {
	t.Helper()
	for i := range list {
		var before [][]byte
		for _, b := range list[i+1:] {
			before = append(before, bytes.Clone(b))
		}
		spoil(list[i], byte(0xc0+i))
		if !slices.EqualFunc(list[i+1:], before, bytes.Equal) {
			t.Errorf("%s: list %d shares memory with one behind it", what, i)
		}
	}
}

func TestACrewChangesNothing(t *testing.T) { // P4: trees and messages stay as they were, with the room behind their ends
	for i, plan := range trees() {
		given, stillTree := roomyTree(plan)
		c := crewOf(t, given, poolOf(3, 2))
		for _, n := range []int{0, 3, 4, 5, 27, 1, 8, 300} {
			data, stillData := roomy(pattern(n))
			c.Write(data)
			c.Sum()
			c.Rows()
			if !stillData() || !stillTree() {
				t.Errorf("tree %d, %d bytes: what was handed in has changed", i, n)
			}
		}
		c.Reset()
		c.Write(pattern(30))
		c.Close()
		if !stillTree() {
			t.Errorf("tree %d: what was handed in has changed", i)
		}
	}
}

func TestACrewKeepsNothing(t *testing.T) { // P4: a message that is changed behind Write leaves the crew as it is
	for i, plan := range trees() {
		for _, cut := range []int{1, 2, 3, 4, 5, 8, 11, 16, 17} {
			c := crewOf(t, plan, poolOf(3, 2))
			data := pattern(67)
			buffer := make([]byte, cut)
			for from := 0; from < len(data); from += cut {
				n := copy(buffer, data[from:])
				c.Write(buffer[:n])
				spoil(buffer, byte(0x80+from))
			}
			wantCrew(t, fmt.Sprintf("tree %d, pieces of %d", i, cut), c, plan, data)
		}
	}
}

func TestACrewsAnswersAreNew(t *testing.T) { // P4: changed answers, also behind their ends, leave the crew and other answers as they are
	for i, plan := range trees() {
		c := crewOf(t, plan, poolOf(3, 2))
		var data []byte
		for _, n := range []int{0, 3, 1, 1, 4, 30, 100} {
			c.Write(pattern(n))
			data = append(data, pattern(n)...)
			first, _ := c.Sum()
			second, e := c.Sum()
			rows, again := c.Rows(), c.Rows()
			spoil(first, 0xee)
			spoil(rows, 77)
			what := fmt.Sprintf("tree %d, %d bytes", i, len(data))
			wantBytes(t, what, second, e, hashOf(t, plan, data))
			if !slices.Equal(again, rowsOf(t, plan, len(data))) {
				t.Errorf("%s: Rows share memory", what)
			}
			wantCrew(t, what, c, plan, data)
			later, e := c.Sum()
			c.Write([]byte("later"))
			wantBytes(t, what+", told ahead of a Write", later, e, hashOf(t, plan, data))
			data = append(data, "later"...)
		}
		last, e := c.Sum()
		c.Reset()
		c.Write(pattern(400))
		c.Close()
		wantBytes(t, fmt.Sprintf("tree %d, told ahead of Reset and Close", i), last, e, hashOf(t, plan, data))
	}
}

func TestHashAndManyChangeNothing(t *testing.T) { // P4
	for i, plan := range trees() {
		given, stillTree := roomyTree(plan)
		data, stillData := roomy(pattern(27))
		list, stillList := roomyLists([][]byte{pattern(27), nil, pattern(5), pattern(27)})
		still := func() bool { return stillTree() && stillData() && stillList() }
		digest := hashOf(t, plan, pattern(27))
		right := [][]byte{digest, hashOf(t, plan, nil), hashOf(t, plan, pattern(5)), digest}
		for _, p := range []api.Pool{poolOf(1, 1), poolOf(3, 2), poolOf(api.MaxWorkers, api.MaxRoom), {}} {
			for range 2 { // the second time behind spoilt answers of the first
				one, e1 := Hash(given, p, data)
				many, e2 := Many(given, p, list)
				if !still() {
					t.Errorf("tree %d, %v: what was handed in has changed", i, p)
				}
				if p == (api.Pool{}) {
					continue
				}
				wantBytes(t, "Hash", one, e1, digest)
				wantLists(t, "Many", many, e2, right)
				wantApart(t, fmt.Sprint("tree ", i), append(slices.Clone(many), one))
				spoil(many, []byte("other"))
				if !still() {
					t.Errorf("tree %d, %v: an answer shares memory with what was handed in", i, p)
				}
			}
		}
	}
}

func TestHashAndManyKeepNothing(t *testing.T) { // P4: what is changed behind a call leaves its answer as it is, and is seen by the next one
	for i, plan := range trees() {
		given, _ := roomyTree(plan)
		data, list := pattern(27), [][]byte{pattern(27), pattern(3)}
		p := poolOf(3, 2)
		one, e1 := Hash(given, p, data)
		many, e2 := Many(given, p, list)
		for _, b := range [][]byte{given.Key, given.Salt, given.Personal, data, list[0], list[1]} {
			spoil(b, 0x11)
		}
		right := hashOf(t, plan, pattern(27))
		wantBytes(t, fmt.Sprint("Hash, tree ", i), one, e1, right)
		wantLists(t, fmt.Sprint("Many, tree ", i), many, e2, [][]byte{right, hashOf(t, plan, pattern(3))})
		one, e1 = Hash(given, p, data)
		wantBytes(t, fmt.Sprint("Hash behind, tree ", i), one, e1, hashOf(t, given, data))
		many, e2 = Many(given, p, list)
		wantLists(t, fmt.Sprint("Many behind, tree ", i), many, e2, manyOf(t, given, list))
	}
}

func TestNilAndEmptyLists(t *testing.T) { // P3: of trees and messages
	for _, k := range kinds {
		nils := bare(k, 2, 255, 4)
		empties := nils
		empties.Key, empties.Salt, empties.Personal = []byte{}, []byte{}, []byte{}
		right := hashOf(t, nils, nil)
		for _, plan := range []api.Tree{nils, empties} {
			for _, data := range [][]byte{nil, {}} {
				one, e := Hash(plan, poolOf(2, 2), data)
				wantBytes(t, "Hash", one, e, right)
				many, e := Many(plan, poolOf(2, 2), [][]byte{data, data})
				wantLists(t, "Many", many, e, [][]byte{right, right})
				c := crewOf(t, plan, poolOf(2, 2))
				c.Write(data)
				wantCrew(t, "a crew", c, nils, nil)
			}
		}
	}
}
