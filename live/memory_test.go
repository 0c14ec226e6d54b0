package live

import (
	"bytes"
	"fmt"
	"slices"
	"testing"

	"quern/api"
)

// roomy tells a copy of a list with room behind its end, and a function that tells whether list and room are as they were.
func roomy[T comparable](list []T, filler T) ([]T, func() bool) {
	whole := append(slices.Clone(list), slices.Repeat([]T{filler}, 70)...)
	before := slices.Clone(whole)
	return whole[:len(list)], func() bool { return slices.Equal(whole, before) }
}

// roomyTree lays a tree's lists likewise.
func roomyTree(t api.Tree) (api.Tree, func() bool) {
	var stills [3]func() bool
	t.Key, stills[0] = roomy(t.Key, 0xa5)
	t.Salt, stills[1] = roomy(t.Salt, 0xa5)
	t.Personal, stills[2] = roomy(t.Personal, 0xa5)
	return t, func() bool { return stills[0]() && stills[1]() && stills[2]() }
}

// sameMemory tells whether two lists are the same bytes of memory, with the same room.
func sameMemory(a, b []byte) bool {
	return len(a) == len(b) && cap(a) == cap(b) && &a[:1][0] == &b[:1][0]
}

// roomyLists lays a list of lists likewise, the list's own room with marks too.
func roomyLists(list [][]byte) ([][]byte, func() bool) {
	var whole [][]byte
	var stills []func() bool
	for _, b := range append(slices.Clone(list), []byte("mark"), []byte("mark")) {
		laid, still := roomy(b, 0xa5)
		whole, stills = append(whole, laid), append(stills, still)
	}
	before := slices.Clone(whole)
	return whole[:len(list)], func() bool {
		for i := range whole {
			if !sameMemory(whole[i], before[i]) || !stills[i]() {
				return false
			}
		}
		return true
	}
}

// roomyJobs lays jobs, their keys and their data likewise.
func roomyJobs(list []api.Job) ([]api.Job, func() bool) {
	var whole []api.Job
	var stills []func() bool
	for _, j := range append(slices.Clone(list), jobOf(77), jobOf(78)) {
		var stillKey, stillData func() bool
		j.Key, stillKey = roomy(j.Key, 0xa5)
		j.Data, stillData = roomy(j.Data, 0x5a)
		whole, stills = append(whole, j), append(stills, stillKey, stillData)
	}
	before := slices.Clone(whole)
	return whole[:len(list)], func() bool {
		for i, j := range whole {
			b := before[i]
			if j.Kind != b.Kind || j.Out != b.Out || j.Fails != b.Fails || !sameMemory(j.Key, b.Key) || !sameMemory(j.Data, b.Data) {
				return false
			}
		}
		return !slices.ContainsFunc(stills, func(still func() bool) bool { return !still() })
	}
}

// spoil overwrites a list and the room behind its end.
func spoil[T any](list []T, by T) {
	whole := list[:cap(list)]
	for i := range whole {
		whole[i] = by
	}
}

// spoilDones overwrites all lists of answers, with the room behind their ends.
func spoilDones(list []api.Done) {
	for _, d := range list[:cap(list)] {
		spoil(d.Digest, 0xee)
	}
	spoil(list, api.Done{Tries: -7, Why: 99})
}

// spoilLists likewise.
func spoilLists(list [][]byte) {
	for _, b := range list[:cap(list)] {
		spoil(b, 0xee)
	}
	spoil(list, []byte("other"))
}

// wantApart spoils each list of an answer by itself, and holds that the others are as they were.
func wantApart(t *testing.T, what string, list [][]byte) {
	t.Helper()
	for i := range list {
		var before [][]byte
		for _, b := range list[i+1:] {
			before = append(before, bytes.Clone(b))
		}
		spoil(list[i], byte(0xc0+i))
		if !sameLists(list[i+1:], before) {
			t.Errorf("%s: list %d shares memory with one behind it", what, i)
		}
	}
}

func TestJobsChangeNothing(t *testing.T) { // P4: jobs, keys and data stay as they were, with the room behind their ends; answers are new memory
	c := chance(7)
	for _, p := range append(pools(), poolOf(0, 1)) {
		for _, tries := range []int{1, 3, 9} {
			given := c.jobs(30)
			list, still := roomyJobs(given)
			first, e := Jobs(p, tries, list)
			second, _ := Jobs(p, tries, list)
			if !still() {
				t.Errorf("%v, %d tries: what was handed in has changed", p, tries)
			}
			if e != api.OK {
				continue
			}
			var digests [][]byte
			for _, d := range first {
				digests = append(digests, d.Digest)
			}
			wantApart(t, fmt.Sprint(p), digests)
			spoilDones(first)
			wantDones(t, "the other answer", second, api.OK, rightDones(t, tries, given))
			third, e := Jobs(p, tries, list)
			wantDones(t, "a later answer", third, e, rightDones(t, tries, given))
			if !still() {
				t.Errorf("%v, %d tries: an answer shares memory with what was handed in", p, tries)
			}
		}
	}
}

func TestJobsKeepNothing(t *testing.T) { // P4: what is changed behind a call leaves its answer as it is, and is seen by the next one
	list := jobsOf(1, 2, 3, 4, 5)
	right := rightDones(t, 1, jobsOf(1, 2, 3, 4, 5))
	got, e := Jobs(poolOf(2, 2), 1, list)
	want := digestOf(t, jobOf(4))
	for i := range list {
		spoil(list[i].Key, 0x11)
		spoil(list[i].Data, 0x22)
	}
	wantDones(t, "told ahead", got, e, right)
	got, e = Jobs(poolOf(2, 2), 1, list)
	wantDones(t, "told behind", got, e, rightDones(t, 1, list))
	first, e := First(poolOf(2, 2), list, want)
	wantFirst(t, "behind", first, e, -1)
}

func TestTreesChangeNothing(t *testing.T) { // P4, likewise of trees, messages and fails
	for i, plan := range trees() {
		given, stillTree := roomyTree(plan)
		data, stillData := roomy(pattern(27), 0x5a)
		fails, stillFails := roomy([]int{0, 1, 2, -1, 0, 1}, 9)
		l, stillList := roomyLists([][]byte{pattern(27), nil, pattern(5), pattern(27)})
		still := func() bool { return stillTree() && stillData() && stillFails() && stillList() }
		leaves, digest := leavesOf(t, plan, pattern(27)), hashOf(t, plan, pattern(27))
		right := [][]byte{digest, hashOf(t, plan, nil), hashOf(t, plan, pattern(5)), digest}
		for _, p := range []api.Pool{poolOf(1, 1), poolOf(3, 2), poolOf(api.MaxWorkers, api.MaxRoom)} {
			for range 2 { // the second time behind spoilt answers of the first
				a, e1 := Leaves(given, p, data)
				wantLists(t, "Leaves", a, e1, leaves)
				b, e2 := Hash(given, p, data)
				wantBytes(t, "Hash", b, e2, digest)
				c, broken, e3 := Shaken(given, p, 3, fails, data)
				wantShaken(t, "Shaken", c, broken, e3, digest)
				d, e4 := Many(given, p, l)
				wantLists(t, "Many", d, e4, right)
				none, broken, e5 := Shaken(given, p, 1, fails, data)
				wantBroken(t, "Shaken", none, broken, e5, []int{1, 2, 5})
				if !still() {
					t.Errorf("tree %d, %v: what was handed in has changed", i, p)
				}
				spoil(broken, -5)
				wantApart(t, fmt.Sprint("tree ", i), slices.Concat(a, d, [][]byte{b, c}))
				spoilLists(a)
				spoilLists(d)
				if !still() {
					t.Errorf("tree %d, %v: an answer shares memory with what was handed in", i, p)
				}
			}
		}
	}
}

func TestTreesKeepNothing(t *testing.T) { // P4: what is changed behind a call leaves its answer as it is, and is seen by the next one
	for i, plan := range trees() {
		given, _ := roomyTree(plan)
		data, fails := pattern(27), []int{0, 1, 2}
		l := [][]byte{pattern(27), pattern(3)}
		p := poolOf(3, 2)
		leaves, e1 := Leaves(given, p, data)
		digest, e2 := Hash(given, p, data)
		shaken, broken, e3 := Shaken(given, p, 3, fails, data)
		many, e4 := Many(given, p, l)
		for _, list := range [][]byte{given.Key, given.Salt, given.Personal, data, l[0], l[1]} {
			spoil(list, 0x11)
		}
		spoil(fails, 3)
		right := hashOf(t, plan, pattern(27))
		wantLists(t, fmt.Sprint("Leaves, tree ", i), leaves, e1, leavesOf(t, plan, pattern(27)))
		wantBytes(t, fmt.Sprint("Hash, tree ", i), digest, e2, right)
		wantShaken(t, fmt.Sprint("Shaken, tree ", i), shaken, broken, e3, right)
		wantLists(t, fmt.Sprint("Many, tree ", i), many, e4, [][]byte{right, hashOf(t, plan, pattern(3))})
		digest, e2 = Hash(given, p, data)
		wantBytes(t, fmt.Sprint("Hash behind, tree ", i), digest, e2, hashOf(t, given, data))
		shaken, broken, e3 = Shaken(given, p, 3, fails, data)
		wantBroken(t, fmt.Sprint("Shaken behind, tree ", i), shaken, broken, e3, []int{0, 1, 2})
	}
}

func TestFirstChangesNothing(t *testing.T) { // P4, likewise of jobs and want
	given := jobsOf(1, 2, 3, 4, 5, 3, 2, 1)
	list, still := roomyJobs(given)
	for i := range 7 {
		want, stillWant := roomy(digestOf(t, jobOf(i)), 0xa5)
		for _, p := range pools() {
			got, e := First(p, list, want)
			wantFirst(t, fmt.Sprint(p), got, e, rightFirst(t, given, want))
		}
		if !still() || !stillWant() {
			t.Errorf("job %d: what was handed in has changed", i)
		}
	}
}

func TestNilAndEmpty(t *testing.T) { // P3: lists of trees, jobs and messages
	for _, k := range kinds {
		nils := bare(k, 2, 255, 4)
		empties := nils
		empties.Key, empties.Salt, empties.Personal = []byte{}, []byte{}, []byte{}
		right := hashOf(t, nils, nil)
		for _, plan := range []api.Tree{nils, empties} {
			for _, data := range [][]byte{nil, {}} {
				d, e := Hash(plan, poolOf(2, 2), data)
				wantBytes(t, "Hash", d, e, right)
				l, e := Leaves(plan, poolOf(2, 2), data)
				wantLists(t, "Leaves", l, e, leavesOf(t, nils, nil))
				l, e = Many(plan, poolOf(2, 2), [][]byte{data, data})
				wantLists(t, "Many", l, e, [][]byte{right, right})
			}
		}
		jobs := []api.Job{{Kind: k, Out: 32}, {Kind: k, Out: 32, Key: []byte{}, Data: []byte{}}}
		digest := digestOf(t, jobs[0])
		done, e := Jobs(poolOf(2, 2), 1, jobs)
		wantDones(t, "Jobs", done, e, []api.Done{{Digest: digest, Tries: 1}, {Digest: digest, Tries: 1}})
		for _, list := range [][]api.Job{jobs, jobs[1:]} {
			got, e := First(poolOf(2, 2), list, digest)
			wantFirst(t, "First", got, e, 0)
		}
	}
}

func TestZeroArguments(t *testing.T) { // P1: of nothing at all
	wantRefused(t, "nothing", api.Tree{}, api.Pool{}, api.ErrPool)
	if got, e := Jobs(api.Pool{}, 0, nil); e != api.ErrPool || len(got) != 0 {
		t.Errorf("Jobs: %v, error %d", got, e)
	}
	if got, e := First(api.Pool{}, nil, nil); e != api.ErrPool || got != 0 {
		t.Errorf("First: %d, error %d", got, e)
	}
	done, e := Jobs(poolOf(1, 1), 1, []api.Job{{}})
	wantDones(t, "a job that says nothing", done, e, []api.Done{{Tries: 1, Why: api.ErrArg}})
}
