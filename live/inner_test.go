package live

import (
	"fmt"
	"sync"
	"sync/atomic"
	"testing"
	"time"

	"quern/api"
)

func always(int) bool { return true }

// within lets something be done in a goroutine of its own, and gives up, if it does not end.
func within(t *testing.T, what string, do func()) {
	t.Helper()
	end := make(chan int)
	go func() {
		defer close(end)
		do()
	}()
	select {
	case <-end:
	case <-time.After(30 * time.Second):
		t.Fatalf("%s: it does not end", what)
	}
}

func TestEachPlaceOnce(t *testing.T) { // P16.5: all is done, and nobody is at work any more, when share comes back
	for _, p := range pools() {
		for _, n := range []int{0, 1, p.Workers, p.Workers + p.Queue + 5} {
			counts := make([]atomic.Int64, n)
			var atWork atomic.Int64
			share(p, n, always, func(at int) {
				atWork.Add(1)
				counts[at].Add(1)
				atWork.Add(-1)
			})
			for at := range counts {
				if got := counts[at].Load(); got != 1 {
					t.Errorf("%v: place %d is done %d times", p, at, got)
				}
			}
			if atWork.Load() != 0 {
				t.Errorf("%v: somebody is at work", p)
			}
		}
	}
}

func TestSideBySide(t *testing.T) { // Ways: as many at a time as there are workers, for each waits till all of them have begun
	for _, workers := range []int{1, 2, 7, api.MaxWorkers} {
		for _, n := range []int{workers, 3 * workers} {
			within(t, fmt.Sprint(workers, " workers"), func() {
				var met sync.WaitGroup
				met.Add(workers)
				share(poolOf(workers, 1), n, always, func(at int) {
					if at < workers {
						met.Done()
						met.Wait()
					}
				})
			})
		}
	}
}

func TestNoMoreThanWorkers(t *testing.T) { // Ways: never more at a time
	for _, workers := range []int{1, 2, 5} {
		var atWork, most atomic.Int64
		share(poolOf(workers, 50), 400, always, func(int) {
			now := atWork.Add(1)
			for old := most.Load(); now > old && !most.CompareAndSwap(old, now); old = most.Load() {
			}
			time.Sleep(10 * time.Microsecond)
			atWork.Add(-1)
		})
		if most.Load() > int64(workers) {
			t.Errorf("%d at a time by %d workers", most.Load(), workers)
		}
	}
}

func TestBoundedQueue(t *testing.T) { // Ways: while the workers stand, no more is handed out than they have and the queue holds
	for _, p := range []api.Pool{poolOf(1, 1), poolOf(3, 1), poolOf(2, 9)} {
		var handed atomic.Int64
		var begun sync.WaitGroup
		begun.Add(p.Workers)
		stand := make(chan int)
		within(t, fmt.Sprint(p), func() {
			go func() {
				begun.Wait()
				time.Sleep(5 * time.Millisecond)
				// One more was asked for: that which waits for room.
				if got := handed.Load(); got > int64(p.Workers+p.Queue+1) {
					t.Errorf("%v: %d places were handed out", p, got)
				}
				close(stand)
			}()
			share(p, 100, func(int) bool { handed.Add(1); return true }, func(at int) {
				if at < p.Workers {
					begun.Done()
				}
				<-stand
			})
		})
	}
}

func TestPanicsOfAnyKind(t *testing.T) { // P16.5: whatever panics within a job's work is told of that job alone
	var none []int
	var list map[int]int
	kinds := []func(){
		func() { panic("a text") },
		func() { panic(7) },
		func() { panic(api.ErrArg) },
		func() { panic(fmt.Errorf("an error")) },
		func() { panic(nil) },
		func() { none[len(none)]++ },
		func() { list[1]++ },
		func() { var j *api.Job; j.Out++ },
		func() { close((chan int)(nil)) },
	}
	n := 10 * len(kinds)
	for _, p := range pools() {
		for _, tries := range []int{1, 2, api.MaxTries} {
			done := answers(p, tries, n, func(at int) task {
				return task{work: func() ([]byte, api.Errno) {
					if at%3 != 0 {
						kinds[at%len(kinds)]()
					}
					return []byte{byte(at)}, api.OK
				}}
			})
			for at, d := range done {
				right := api.Done{Tries: tries, Why: api.ErrBroken}
				if at%3 == 0 {
					right = api.Done{Digest: []byte{byte(at)}, Tries: 1}
				}
				if !sameDone(d, right) {
					t.Errorf("%v, %d tries: task %d: %v, want %v", p, tries, at, d, right)
				}
			}
		}
	}
}

func TestBegunAgainAtOnce(t *testing.T) { // 'Words': a job that panicked is begun again by the worker that had it, ahead of all others
	var order []int
	left := map[int]int{0: 2, 1: 0, 2: 9, 3: 1}
	done := answers(poolOf(1, 4), 4, 4, func(at int) task {
		return task{work: func() ([]byte, api.Errno) {
			order = append(order, at) // one worker: nobody beside
			if left[at] > 0 {
				left[at]--
				panic("not yet")
			}
			return nil, api.OK
		}}
	})
	if fmt.Sprint(order) != "[0 0 0 1 2 2 2 2 3 3]" {
		t.Errorf("begun in the order %v", order)
	}
	for at, tries := range []int{3, 1, 4, 2} {
		if done[at].Tries != tries {
			t.Errorf("task %d: %v, want %d tries", at, done[at], tries)
		}
	}
}

func TestFailsAheadOfTheWork(t *testing.T) { // 'Words': it panics ahead of its work, which is done once at most
	for fails := -1; fails < 10; fails++ {
		for tries := 1; tries <= api.MaxTries; tries++ {
			works := 0
			task{fails: fails, work: func() ([]byte, api.Errno) { works++; return nil, api.OK }}.answer(tries)
			right := 1
			if fails >= tries {
				right = 0
			}
			if works != right {
				t.Errorf("fails %d, %d tries: the work is done %d times", fails, tries, works)
			}
		}
	}
}

func TestSearchStops(t *testing.T) { // Ways: behind the one that was found nothing is looked at any more
	for _, at := range []int{0, 1, 2, 50} {
		var looked []int
		got := search(poolOf(1, 7), 1000, func(place int) bool {
			looked = append(looked, place) // one worker: nobody beside
			return place == at || place > at+1
		})
		if got != at || len(looked) != at+1 {
			t.Errorf("found %d, looked at %v, want %d", got, looked, at)
		}
	}
	handed := 0
	share(poolOf(2, 2), 1000, func(at int) bool { handed++; return at < 10 }, func(int) {})
	if handed != 11 {
		t.Errorf("%d places were asked for, though the eleventh was the end", handed)
	}
}

func TestSearchGoesBack(t *testing.T) { // P16.4: the least place, in whatever order they are found
	for _, order := range [][]int{{0, 1, 2, 3}, {3, 2, 1, 0}, {2, 3, 0, 1}, {1, 3, 2, 0}, {3, 0, 2, 1}, {2, 0, 1, 3}} {
		within(t, fmt.Sprint(order), func() {
			turns := make([]chan int, 5)
			for i := range turns {
				turns[i] = make(chan int)
			}
			begun := make(chan int, 4)
			go func() { // all four are looked at first, so that none is left out
				for range 4 {
					<-begun
				}
				close(turns[0])
			}()
			turnOf := map[int]int{}
			for turn, place := range order {
				turnOf[place] = turn
			}
			got := search(poolOf(4, 1), 4, func(at int) bool {
				begun <- at
				turn := turnOf[at]
				<-turns[turn]
				defer close(turns[turn+1])
				return at != 0
			})
			if got != 1 {
				t.Errorf("found in the order %v: %d", order, got)
			}
		})
	}
}

func TestLower(t *testing.T) { // the number only falls, whoever is at it
	for range 50 {
		var f first
		f.place.Store(1 << 40)
		var all sync.WaitGroup
		for i := range 100 {
			all.Go(func() { f.lower(100 - i) })
		}
		all.Wait()
		if got := f.place.Load(); got != 1 {
			t.Fatalf("lowered to %d", got)
		}
		f.lower(1)
		f.lower(2)
		if got := f.place.Load(); got != 1 || f.ahead(1) || !f.ahead(0) {
			t.Fatalf("lowered to %d", got)
		}
		f.lower(0)
		if f.place.Load() != 0 || f.ahead(0) {
			t.Fatal("not lowered to 0")
		}
	}
}

func TestLeafOutputs(t *testing.T) { // P16.2: each leaf by itself, whoever has it
	for _, plan := range trees() {
		data := pattern(30)
		for at, right := range leavesOf(t, plan, data) {
			got, e := leafOutput(plan, data, uint64(at))
			wantBytes(t, fmt.Sprint("leaf ", at), got, e, right)
		}
	}
}
