package trace

import (
	"math"
	"slices"
	"testing"

	"quern/api"
)

func wantRaces(t testing.TB, what, list, right string) {
	t.Helper()
	s, l := plain(), events(list)
	wantValid(t, what, s, l)
	pairs := races(right)
	for _, most := range []int{0, 1, 2, 3, 10, api.MaxRaces} {
		if got := racesOf(t, s, l, most); !slices.Equal(got, pairs[:min(most, len(pairs))]) {
			t.Errorf("%s: %s: at most %d races: %v, want %s", what, list, most, got, right)
		}
	}
}

func TestRaces(t *testing.T) { // P14.4
	for _, w := range [][3]string{
		{"no event", "", ""},
		{"one runner", "0 Write 0; 0 Write 0; 0 Read 0; 0 Write 0", ""},
		{"a write and a read", two + "1 Write 0; 2 Read 0", "2-3"},
		{"a read and a write", two + "1 Read 0; 2 Write 0", "2-3"},
		{"two writes", two + "1 Write 0; 2 Write 0", "2-3"},
		{"reads alone", two + "1 Read 0; 2 Read 0; 0 Read 0; 1 Read 0", ""},
		{"unlike cells", two + "1 Write 0; 2 Write 1; 0 Write 2", ""},
		{"by cells", two + "1 Write 1; 1 Write 2; 2 Write 2; 2 Read 1", "3-4 2-5"},
		{"started behind it", "0 Write 0; 0 Start 1 1; 1 Write 0; 1 Read 0", ""},
		{"started ahead of it", "0 Start 1 1; 0 Write 0; 1 Write 0; 1 Read 0", "1-2 1-3"},
		{"ordered by a channel", two + "1 Write 0; 1 Send 0; 2 Take 0; 2 Write 0", ""},
		{"by the other channel", two + "1 Write 0; 1 Send 0; 2 Send 1; 2 Take 1; 2 Write 0", "2-6"},
		{"sent ahead of it", two + "1 Send 0; 1 Write 0; 2 Take 0; 2 Write 0", "3-5"},
		{"ordered by a room", two + "1 Send 0; 2 Write 0; 2 Take 0; 1 Send 0; 1 Write 0", ""},
		{"taken ahead of it", two + "1 Send 0; 2 Take 0; 2 Write 0; 1 Send 0; 1 Write 0", "4-6"},
		{"ordered by a close", two + "1 Write 0; 1 Close 0; 2 Take 0 0 shut; 2 Read 0", ""},
		{"closed once more", two + "1 Close 0; 1 Write 0; 1 Close 0; 2 Take 0 0 shut; 2 Read 0", "3-6"},
		{"ordered by a lock", two + "1 Lock 0; 1 Write 0; 1 Free 0; 2 Lock 0; 2 Write 0; 2 Free 0", ""},
		{"by another lock", two + "1 Lock 0; 1 Write 0; 1 Free 0; 2 Lock 1; 2 Write 0; 2 Free 1", "3-6"},
		{"a lock given back by a stranger", two + "1 Lock 0; 1 Write 0; 0 Free 0; 2 Lock 0; 2 Write 0", "3-6"},
		{"ordered by a group", two + "1 Write 0; 1 Add 0; 2 Wait 0; 2 Write 0", ""},
		{"added ahead of it", two + "1 Add 0; 1 Write 0; 2 Wait 0; 2 Write 0", "3-5"},
		{"ordered by a third one", two + "1 Write 0; 1 Send 0; 0 Take 0; 0 Send 1; 2 Take 1; 2 Write 0", ""},
		{"the first and not the second", two + "1 Write 0; 1 Send 0; 1 Write 0; 2 Take 0; 2 Read 0", "4-6"},
		{"the order of the answer", two + "0 Write 0; 1 Write 0; 2 Write 0; 1 Read 0; 0 Read 0; 2 Write 0", "2-3 2-4 3-4 2-5 4-5 3-6 4-6 2-7 3-7 5-7 6-7"},
		{"Values are nothing", two + "1 Write 0 5; 2 Write 0 5; 2 Read 0 -9", "2-3 2-4"},
		{"example 1", "0 Write 0; 0 Start 1 1; 1 Read 0; 0 Write 0", "2-3"},
	} {
		wantRaces(t, w[0], w[1], w[2])
	}
}

func TestMost(t *testing.T) { // P14.4: 0 to MaxRaces
	s, l := plain(), events(two+"1 Write 0; 2 Read 0")
	for _, most := range []int{-1, api.MaxRaces + 1, math.MinInt, math.MaxInt, 1 << 32} {
		for _, list := range [][]api.Event{l, nil, events("0 Work")} {
			if got, e := Races(s, list, most); e != api.ErrArg || len(got) > 0 {
				t.Errorf("at most %d: %v, error %d", most, got, e)
			}
		}
	}
	if got := racesOf(t, s, l, 0); len(got) > 0 {
		t.Errorf("at most 0: %v", got)
	}
	if got := racesOf(t, s, l, api.MaxRaces); !slices.Equal(got, races("2-3")) {
		t.Errorf("at most %d: %v", api.MaxRaces, got)
	}
}

// firstRaces tells the first races of a list in which nothing ties the runners but what started them.
func firstRaces(l []api.Event, from, most int) []api.Race {
	var list []api.Race
	for j := from; j < len(l) && len(list) < most; j++ {
		for i := from; i < j && len(list) < most; i++ {
			if l[i].Who != l[j].Who && (l[i].Op == api.OpWrite || l[j].Op == api.OpWrite) {
				list = append(list, api.Race{First: i, Second: j})
			}
		}
	}
	return list
}

func TestMoreRacesThanMost(t *testing.T) { // P14.4: the first ones by rising second, of one second by rising first
	for _, runners := range []int{2, 26, 60, api.MaxRunner} {
		for _, reads := range []int{1, 5} {
			l := starts(1, runners-1)
			from := len(l)
			for n := 0; len(l) < api.MaxSteps; n++ {
				e := api.Event{Who: (n * 7) % runners, Op: api.OpRead}
				if n%reads == 0 {
					e.Op = api.OpWrite
				}
				l = append(l, e)
			}
			for _, most := range []int{0, 1, 17, api.MaxRaces - 1, api.MaxRaces} {
				got, right := racesOf(t, plain(), l, most), firstRaces(l, from, most)
				if !slices.Equal(got, right) || len(got) != most {
					t.Fatalf("%d runners, at most %d: %d races", runners, most, len(got))
				}
			}
		}
	}
}

func TestRacesAtTheEnd(t *testing.T) { // long lists of accesses that race with nobody, of all runners; one pair at the end
	for _, runners := range []int{2, 27, api.MaxRunner} {
		reads := starts(1, runners-1)
		for len(reads) < api.MaxSteps-1 {
			reads = append(reads, api.Event{Who: len(reads) % runners, Op: api.OpRead})
		}
		if got := racesOf(t, plain(), reads, api.MaxRaces); len(got) > 0 {
			t.Errorf("%d runners that read: %v", runners, got)
		}
		locked := starts(1, runners-1)
		for n := 0; len(locked) < api.MaxSteps-4; n++ {
			who := n * 11 % runners
			locked = append(locked, api.Event{Who: who, Op: api.OpLock}, api.Event{Who: who, Op: api.OpWrite}, api.Event{Who: who, Op: api.OpFree})
		}
		last := locked[len(locked)-1].Who
		if got := racesOf(t, plain(), locked, api.MaxRaces); len(got) > 0 {
			t.Errorf("%d runners that lock: %v", runners, got)
		}
		locked = append(locked, api.Event{Who: (last + 1) % runners, Op: api.OpRead})
		right := []api.Race{{First: len(locked) - 3, Second: len(locked) - 1}}
		// Further back are the writes behind the last lock of the one that reads.
		for at := len(locked) - 6; at > 0 && locked[at].Who != (last+1)%runners && locked[at].Op == api.OpWrite; at -= 3 {
			right = append(right, api.Race{First: at, Second: len(locked) - 1})
		}
		slices.Reverse(right)
		if got := racesOf(t, plain(), locked, api.MaxRaces); !slices.Equal(got, right) {
			t.Errorf("%d runners: races %v, want %v", runners, got, right)
		}
	}
}
