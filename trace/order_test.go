package trace

import (
	"math"
	"slices"
	"testing"

	"quern/api"
)

func TestBeforeArguments(t *testing.T) { // P14.3: ErrArg, if one is no event's number
	s, l := plain(), events("0 Start 1 1; 0 Work; 1 Work; 0 Work")
	for _, n := range []int{-1, 4, 5, math.MinInt, math.MaxInt, 1 << 32} {
		for _, m := range []int{0, 3, -1, 4, n} {
			for _, pair := range [][2]int{{n, m}, {m, n}} {
				is, e := Before(s, l, pair[0], pair[1])
				row, e2 := Way(s, l, pair[0], pair[1])
				if is || len(row) > 0 || e != api.ErrArg || e2 != api.ErrArg {
					t.Errorf("%v: %v, error %d; %v, error %d", pair, is, e, row, e2)
				}
			}
		}
	}
}

// wantWay holds whether i is before j, and the way; none: it is not.
func wantWay(t testing.TB, what, list string, i, j int, right ...int) {
	t.Helper()
	s, l := plain(), events(list)
	wantValid(t, what, s, l)
	if is := beforeOf(t, s, l, i, j); is != (len(right) > 0) {
		t.Errorf("%s: Before(%d, %d) is %v", what, i, j, is)
	}
	if row := wayOf(t, s, l, i, j); !slices.Equal(row, right) {
		t.Errorf("%s: Way(%d, %d) is %v, want %v", what, i, j, row, right)
	}
}

func TestWays(t *testing.T) { // P14.3
	one := "0 Work; 0 Work; 0 Work; 0 Work"
	for i := range 4 {
		for j := range 4 {
			var right []int
			for n := i; i < j && n <= j; n++ {
				right = append(right, n)
			}
			wantWay(t, "one runner", one, i, j, right...)
		}
	}
	apart := two + "1 Work; 2 Work; 1 Work; 2 Work"
	wantWay(t, "a neighbour", apart, 2, 4, 2, 4)
	wantWay(t, "the other's", apart, 2, 5)
	wantWay(t, "the other's, ahead", apart, 3, 4)
	wantWay(t, "next to it in the list alone", apart, 2, 3)
	wantWay(t, "behind it", apart, 4, 2)
	wantWay(t, "itself", apart, 3, 3)
	wantWay(t, "the first one itself", apart, 0, 0)
	wantWay(t, "from the first one", apart, 0, 5, 0, 1, 3, 5)
	wantWay(t, "from the first one to the other", apart, 0, 4, 0, 2, 4)
	wantWay(t, "a start is not before the other's", apart, 1, 4)
	wantWay(t, "over a channel", two+"1 Work; 1 Send 0; 2 Work; 2 Take 0; 2 Work", 2, 6, 2, 3, 5, 6)
	wantWay(t, "a short cut", two+"1 Send 0; 1 Work; 1 Work; 2 Take 0; 1 Send 1; 2 Take 1", 2, 7, 2, 5, 7)
	wantWay(t, "the short cut alone", "0 Add 0; 0 Work; 0 Work; 0 Wait 0; 0 Work", 0, 4, 0, 3, 4)
	wantWay(t, "no way round", two+"1 Lock 0; 2 Free 0; 0 Lock 0", 2, 4)
	wantWay(t, "through a room", two+"1 Send 0; 2 Take 0; 2 Work; 1 Send 0; 1 Work", 3, 6, 3, 5, 6)
	wantWay(t, "not through a room that was never there", two+"1 Send 0; 1 Send 0; 2 Take 0; 1 Work", 4, 5)
	wantWay(t, "a wait behind a wait", two+"1 Add 0; 2 Wait 0; 2 Wait 0; 2 Wait 0", 2, 5, 2, 5)
	wantWay(t, "an add behind a wait", two+"2 Wait 0; 1 Add 0; 2 Work", 3, 4)
	wantWay(t, "over two groups", two+"1 Add 0; 2 Wait 0; 2 Add 1; 0 Wait 1", 2, 5, 2, 3, 4, 5)
}

func TestWaysOfOneLength(t *testing.T) { // P14.3: of these the first by its numbers
	wantWay(t, "through its own", "0 Start 1 1; 0 Add 0; 0 Free 0; 1 Wait 0; 1 Lock 0", 1, 4, 1, 2, 4)
	wantWay(t, "through the other's", "0 Start 1 1; 0 Add 0; 1 Wait 0; 0 Free 0; 1 Lock 0", 1, 4, 1, 2, 4)
	wantWay(t, "parting early", two+"0 Add 0; 1 Wait 0; 2 Wait 0; 2 Free 0; 1 Free 0; 0 Lock 0", 2, 7, 2, 7)
	// From the add to the waits 3 and 4; from 3 on to the free 6, from 4 to the free 5; both lead to the lock. The first number that differs counts, not the last one.
	wantWay(t, "the earlier number first", "0 Start 1 1; 0 Start 1 2; 0 Start 1 3; 0 Add 0; 1 Wait 0; 2 Wait 0; 2 Free 0; 1 Free 0; 3 Lock 0", 3, 8, 3, 4, 7, 8)
	wantWay(t, "the earlier number first, the other way round", "0 Start 1 1; 0 Start 1 2; 0 Start 1 3; 0 Add 0; 2 Wait 0; 1 Wait 0; 1 Free 0; 2 Free 0; 3 Lock 0", 3, 8, 3, 4, 7, 8)
	wantWay(t, "shorter goes ahead of first", "0 Start 1 1; 0 Start 1 2; 0 Start 1 3; 0 Add 0; 1 Wait 0; 1 Work; 2 Wait 0; 2 Free 0; 1 Free 0; 3 Lock 0", 3, 9, 3, 6, 7, 9)
	// Three shut takes of one close, each with a free behind it.
	wantWay(t, "closes", "0 Start 1 1; 0 Start 1 2; 0 Start 1 3; 0 Close 0; 3 Take 0 0 shut; 2 Take 0 0 shut; 1 Take 0 0 shut; 1 Free 0; 2 Free 0; 3 Free 0; 0 Work; 0 Work; 0 Lock 0", 3, 12, 3, 4, 9, 12)
	// Two adds that lead to one wait, the later one reached by the smaller number.
	wantWay(t, "two adds", "0 Start 1 1; 0 Start 1 2; 0 Close 0; 1 Take 0 0 shut; 2 Take 0 0 shut; 2 Add 0; 1 Add 0; 1 Work; 0 Wait 0", 2, 8, 2, 8)
	wantWay(t, "two adds, and a third runner waits", "0 Start 1 1; 0 Start 1 2; 0 Start 1 3; 0 Close 0; 1 Take 0 0 shut; 2 Take 0 0 shut; 2 Add 0; 1 Add 0; 3 Wait 0", 3, 8, 3, 4, 7, 8)
}

func TestWayThroughManyGroups(t *testing.T) { // edges by hundreds of millions: neither call goes through all of them
	var l []api.Event
	l = append(l, starts(1, 2)...)
	for len(l) < api.MaxSteps-1 {
		l = append(l, api.Event{Who: 1, Op: api.OpAdd}, api.Event{Who: 2, Op: api.OpWait})
	}
	l = l[:api.MaxSteps-1]
	l = append(l, api.Event{Who: 1, Op: api.OpWork})
	s, last := plain(), len(l)-1
	if !beforeOf(t, s, l, 2, last) || beforeOf(t, s, l, 3, last) || !beforeOf(t, s, l, 2, last-2) {
		t.Errorf("another order")
	}
	if row := wayOf(t, s, l, 2, last); len(row) != 19999+1 || row[1] != 4 || row[len(row)-2] != last-1 {
		t.Errorf("the way through the adds has %d events", len(row))
	}
	if row := wayOf(t, s, l, 2, last-2); !slices.Equal(row, []int{2, last - 2}) {
		t.Errorf("the way to the last wait is %v", row)
	}
	if row := wayOf(t, s, l, 3, last); len(row) > 0 {
		t.Errorf("a way from a wait: %v", row)
	}
	if list := racesOf(t, s, l, api.MaxRaces); len(list) > 0 {
		t.Errorf("races %v", list)
	}
}
