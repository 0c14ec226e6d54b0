package live

import (
	"fmt"
	"math"
	"slices"
	"testing"

	"quern/api"
)

// rightBroken are the numbers of the leaves that panic whenever they are begun, by the chapter's words.
func rightBroken(leaves, tries int, fails []int) []int {
	var list []int
	for i := range leaves {
		if i < len(fails) && fails[i] >= tries {
			list = append(list, i)
		}
	}
	return list
}

// wantBothWays asks Shaken, and holds what it tells against the tree's digest or the leaves that are broken.
func wantBothWays(t *testing.T, what string, plan api.Tree, p api.Pool, tries int, fails []int, data []byte) {
	t.Helper()
	what = fmt.Sprintf("%s, %v, %d tries, fails %v, %d bytes", what, p, tries, fails, len(data))
	digest, broken, e := Shaken(plan, p, tries, fails, data)
	if right := rightBroken(len(leavesOf(t, plan, data)), tries, fails); len(right) > 0 {
		wantBroken(t, what, digest, broken, e, right)
	} else {
		wantShaken(t, what, digest, broken, e, hashOf(t, plan, data))
	}
}

func TestShaken(t *testing.T) { // P16.3: fails shorter than, as long as, longer than the leaves, with all numbers
	c := chance(3)
	for i, plan := range trees() {
		for _, n := range []int{0, 1, 4, 5, 9, 33, 60} {
			leaves := max(1, (n+3)/4)
			for _, length := range []int{0, 1, leaves - 1, leaves, leaves + 1, leaves + 20} {
				fails := make([]int, length)
				for at := range fails {
					fails[at] = c.fails()
				}
				p := pools()[c.below(5)]
				wantBothWays(t, fmt.Sprint("tree ", i), plan, p, 1+c.below(api.MaxTries), fails, pattern(n))
			}
		}
	}
}

func TestShakenWithoutFailures(t *testing.T) { // P16.3, P3: nothing in fails counts
	data := pattern(33) // nine leaves
	for _, k := range kinds {
		plan := grown(k, 2, 255, 4)
		right := hashOf(t, plan, data)
		for _, fails := range [][]int{
			nil, {}, {0}, {-1}, {math.MinInt, -5, 0}, make([]int, 9), make([]int, 50),
			append(make([]int, 9), 1, 9, math.MaxInt), slices.Repeat([]int{math.MinInt}, 40),
		} {
			for _, tries := range []int{1, 2, api.MaxTries} {
				for _, p := range pools() {
					digest, broken, e := Shaken(plan, p, tries, fails, data)
					wantShaken(t, fmt.Sprintf("%v, %d tries, fails %v", p, tries, fails), digest, broken, e, right)
				}
			}
		}
	}
}

func TestShakenAtItsEdge(t *testing.T) { // P16.3: one failure fewer than tries is none that is told, as many as tries is one
	data := pattern(9) // three leaves
	plan := bare(api.Small, 2, 9, 4)
	right := hashOf(t, plan, data)
	for tries := 1; tries <= api.MaxTries; tries++ {
		for at := range 3 {
			fails := make([]int, 3)
			fails[at] = tries - 1
			digest, broken, e := Shaken(plan, poolOf(2, 1), tries, fails, data)
			wantShaken(t, fmt.Sprint("fails ", fails), digest, broken, e, right)
			for _, more := range []int{tries, tries + 1, math.MaxInt} {
				fails[at] = more
				digest, broken, e = Shaken(plan, poolOf(2, 1), tries, fails, data)
				wantBroken(t, fmt.Sprint("fails ", fails), digest, broken, e, []int{at})
			}
		}
		digest, broken, e := Shaken(plan, poolOf(2, 1), tries, slices.Repeat([]int{tries - 1}, 3), data)
		wantShaken(t, "all of them", digest, broken, e, right)
	}
}

func TestBrokenLeavesRise(t *testing.T) { // P16.3: the numbers of all that never ended, rising, whoever ended first
	plan := bare(api.Big, 2, 255, 4)
	data := pattern(4 * 300)
	all := make([]int, 300)
	for i := range all {
		all[i] = i
	}
	for _, p := range pools() {
		digest, broken, e := Shaken(plan, p, 8, slices.Repeat([]int{8}, 300), data)
		wantBroken(t, fmt.Sprint("all, ", p), digest, broken, e, all)
		digest, broken, e = Shaken(plan, p, 8, slices.Repeat([]int{8}, 500), data)
		wantBroken(t, fmt.Sprint("all and more, ", p), digest, broken, e, all)
		for _, every := range []int{2, 3, 7, 299} {
			fails := make([]int, 300)
			var right []int
			for i := 0; i < 300; i += every {
				fails[i] = math.MaxInt
				right = append(right, i)
			}
			digest, broken, e = Shaken(plan, p, 2, fails, data)
			wantBroken(t, fmt.Sprintf("each of %d, %v", every, p), digest, broken, e, right)
		}
		digest, broken, e = Shaken(plan, p, 1, append(make([]int, 299), 1), data)
		wantBroken(t, fmt.Sprint("the last, ", p), digest, broken, e, []int{299})
	}
}

func TestShakenOfNoBytes(t *testing.T) { // P16.3: one leaf, an empty one, which may be broken too
	for i, plan := range trees() {
		for _, data := range [][]byte{nil, {}} {
			digest, broken, e := Shaken(plan, poolOf(2, 2), 2, []int{1, 2}, data)
			wantShaken(t, fmt.Sprint("tree ", i), digest, broken, e, hashOf(t, plan, nil))
			digest, broken, e = Shaken(plan, poolOf(2, 2), 2, []int{2, 2}, data)
			wantBroken(t, fmt.Sprint("tree ", i), digest, broken, e, []int{0})
		}
	}
}

func TestShakenRefusesTries(t *testing.T) { // ErrArg, when pool and tree may be, whatever fails says
	for _, plan := range trees() {
		for _, tries := range noTries {
			for _, fails := range [][]int{nil, {0}, {9, 9, 9}} {
				for _, data := range [][]byte{nil, pattern(9)} {
					digest, broken, e := Shaken(plan, poolOf(2, 2), tries, fails, data)
					if e != api.ErrArg || len(digest) != 0 || len(broken) != 0 {
						t.Errorf("%d tries: %x, %v, error %d", tries, digest, broken, e)
					}
				}
			}
		}
	}
}
