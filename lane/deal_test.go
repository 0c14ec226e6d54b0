package lane

import (
	"bytes"
	"fmt"
	"slices"
	"testing"

	"quern/api"
)

func TestSplit(t *testing.T) { // P8.2
	for _, k := range kinds {
		for _, n := range lengths(k) {
			lanes, e := Split(k, pattern(n))
			wantLists(t, fmt.Sprintf("Split(%d, %d bytes)", k, n), lanes, e, laneBytes(k, pattern(n)))
		}
	}
}

func TestJoin(t *testing.T) { // P8.2, P8.5: Join of Split is the message
	for _, k := range kinds {
		for n := range 3 * 512 {
			data := pattern(n)
			b, e := Join(k, laneBytes(k, data))
			want(t, "Join", b, e, data)
			lanes, e := Split(k, data)
			wantOK(t, e)
			b, e = Join(k, lanes)
			want(t, "Join of Split", b, e, data)
		}
		for _, n := range lengths(k) {
			b, e := Join(k, laneBytes(k, pattern(n)))
			want(t, "Join", b, e, pattern(n))
		}
	}
}

func TestSplitAndJoinOfNoKind(t *testing.T) { // P1, P2: ErrArg ahead of ErrLanes
	for _, k := range noKinds {
		for _, n := range []int{0, 1, 600} {
			lanes, e := Split(k, pattern(n))
			if len(lanes) != 0 || e != api.ErrArg {
				t.Errorf("Split(%d): %v %d", k, lanes, e)
			}
		}
		for n := range 10 {
			b, e := Join(k, make([][]byte, n))
			wantNo(t, "Join", b, e, api.ErrArg)
		}
		b, e := Join(k, nil)
		wantNo(t, "Join of nil", b, e, api.ErrArg)
	}
}

func TestJoinOfNothing(t *testing.T) { // P8.2, P3: lanes without a byte are those of the empty message; no lanes are those of none
	for _, k := range kinds {
		z := sizesOf(k)
		b, e := Join(k, make([][]byte, z.lanes))
		want(t, "Join of nil lanes", b, e, nil)
		empty := make([][]byte, z.lanes)
		for i := range empty {
			empty[i] = []byte{}
		}
		b, e = Join(k, empty)
		want(t, "Join of empty lanes", b, e, nil)
		b, e = Join(k, nil)
		wantNo(t, "Join of nil", b, e, api.ErrLanes)
		b, e = Join(k, [][]byte{})
		wantNo(t, "Join of no lanes", b, e, api.ErrLanes)
	}
}

func TestJoinOfTooFewAndTooMany(t *testing.T) { // P8.2
	for _, k := range kinds {
		z := sizesOf(k)
		for _, n := range lengths(k) {
			lanes := laneBytes(k, pattern(n))
			for few := range z.lanes {
				b, e := Join(k, lanes[:few])
				wantNo(t, "Join of too few", b, e, api.ErrLanes)
			}
			b, e := Join(k, append(slices.Clone(lanes), nil))
			wantNo(t, "Join of one more, which is empty", b, e, api.ErrLanes)
			b, e = Join(k, append(slices.Clone(lanes), lanes...))
			wantNo(t, "Join of twice as many", b, e, api.ErrLanes)
		}
		// The other kind's lanes are no lanes of this one.
		for _, other := range kinds {
			if other != k {
				b, e := Join(k, laneBytes(other, pattern(1000)))
				wantNo(t, "Join of the other kind's lanes", b, e, api.ErrLanes)
			}
		}
	}
}

func TestJoinOfNoMessagesLanes(t *testing.T) { // P8.2
	for _, k := range kinds {
		z := sizesOf(k)
		all := z.lanes * z.block
		for _, c := range []struct {
			what  string
			n     int
			lane  int
			bytes int
		}{
			{"a first block missing in a lane ahead", 2 * z.block, 0, 0},
			{"a block missing in a lane ahead", all + 2*z.block, 0, z.block},
			{"a block missing between others", all, 1, 0},
			{"the last lane a block ahead", all, z.lanes - 1, 2 * z.block},
			{"a short block that is not the last one", 2 * z.block, 0, z.block - 1},
			{"a short block in the middle of a round", all, 2, z.block - 1},
			{"a short block of a round that others go past", all + z.block, 1, z.block - 1},
			{"a lane too long by a byte behind a short one", z.block - 1, 1, 1},
			{"a lane too long by a byte", all, 1, z.block + 1},
			{"a lane too long by a block", 3 * z.block, 1, 2 * z.block},
			{"a lane of two blocks alone", 0, 0, 2 * z.block},
			{"a lane of one block and a byte alone", 0, 0, z.block + 1},
			{"a second lane alone", 0, 1, 36},
			{"the last lane alone", 0, z.lanes - 1, 1},
		} {
			lanes := laneBytes(k, pattern(c.n))
			lanes[c.lane] = pattern(c.bytes)
			b, e := Join(k, lanes)
			wantNo(t, c.what, b, e, api.ErrLanes)
		}
	}
}

// messages tells, by the lanes' lengths, each message of up to so many bytes.
func messages(k api.Kind, most int) map[string]int {
	z := sizesOf(k)
	dealt := map[string]int{}
	of := make([]int, z.lanes)
	for n := range most + 1 {
		dealt[fmt.Sprint(of)] = n
		of[n/z.block%z.lanes]++
	}
	return dealt
}

func TestJoinOfAllLengths(t *testing.T) { // P8.2: it takes just those lengths of lanes that some message has
	for _, k := range kinds {
		z := sizesOf(k)
		edges := []int{0, 1, z.block - 1, z.block, z.block + 1, 2*z.block - 1, 2 * z.block}
		if k == api.Small {
			edges = []int{0, z.block - 1, z.block, z.block + 1}
		}
		dealt := messages(k, 2*z.lanes*z.block)
		at := make([]int, z.lanes)
		taken := 0
		for {
			lanes, of := make([][]byte, z.lanes), make([]int, z.lanes)
			for i := range lanes {
				of[i] = edges[at[i]]
				lanes[i] = pattern(300)[i : i+of[i]]
			}
			b, e := Join(k, lanes)
			n, is := dealt[fmt.Sprint(of)]
			if !is {
				wantNo(t, fmt.Sprint("Join of lanes of ", of), b, e, api.ErrLanes)
			} else {
				taken++
				if len(b) != n {
					t.Errorf("Join of lanes of %d: %d bytes, want %d", of, len(b), n)
				}
				back, e := Split(k, b)
				wantLists(t, "Split of Join", back, e, lanes)
			}
			if t.Failed() || !nextChoice(at, len(edges)) {
				break
			}
		}
		if taken < 10 {
			t.Errorf("only %d of the lengths are some message's", taken)
		}
	}
}

// nextChoice tells the next row of numbers below n in at; false, if that was the last one.
func nextChoice(at []int, n int) bool {
	for i := range at {
		at[i]++
		if at[i] < n {
			return true
		}
		at[i] = 0
	}
	return false
}

func TestUnlikeMessagesHaveUnlikeLanes(t *testing.T) { // P8.5
	for _, k := range kinds {
		z := sizesOf(k)
		data := pattern(2*z.lanes*z.block + z.block + 9)
		base, e := Split(k, data)
		wantOK(t, e)
		for at := range data {
			other := bytes.Clone(data)
			other[at] ^= 1
			lanes, e := Split(k, other)
			wantOK(t, e)
			for i := range lanes {
				if unlike := i == at/z.block%z.lanes; unlike == bytes.Equal(lanes[i], base[i]) {
					t.Errorf("byte %d is another one: lane %d is like: %v", at, i, !unlike)
				}
			}
		}
		for n := range data {
			lanes, e := Split(k, data[:n])
			wantOK(t, e)
			if slices.EqualFunc(lanes, base, bytes.Equal) {
				t.Errorf("the first %d bytes have the same lanes", n)
			}
		}
	}
}

func TestSplitAndJoinKeepNothing(t *testing.T) { // P4
	for _, k := range kinds {
		for _, n := range lengths(k) {
			wantOwn(t, "Split", func(a [][]byte) [][]byte {
				lanes, _ := Split(k, a[0])
				return lanes
			}, pattern(n))
			wantOwn(t, "Join", func(a [][]byte) [][]byte {
				b, _ := Join(k, a)
				return [][]byte{b}
			}, laneBytes(k, pattern(n))...)
		}
	}
}

func TestJoinLeavesTheListOfLanes(t *testing.T) { // P4: the list of lanes itself, and the room behind it
	for _, k := range kinds {
		lanes := append(laneBytes(k, pattern(700)), []byte("x"), nil)
		n := sizesOf(k).lanes
		before := slices.Clone(lanes)
		b, e := Join(k, lanes[:n])
		want(t, "Join", b, e, pattern(700))
		wantLists(t, "the list", lanes, api.OK, before)
		_, e = Join(k, lanes[:n+1])
		wantErrno(t, "Join", e, api.ErrLanes)
		wantLists(t, "the list", lanes, api.OK, before)
	}
}
