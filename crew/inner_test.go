package crew

import (
	"fmt"
	"slices"
	"sync"
	"sync/atomic"
	"testing"
	"time"

	"quern/api"
)

// within lets something be done in a goroutine of its own, and gives up, if it does not end.
func within(t *testing.T, what string, do func()) {
	t.Helper()
	end := make(chan int)
	go func() {
		defer close(end)
		do()
	}()
	select {
	case <-end:
	case <-time.After(30 * time.Second):
		t.Fatalf("%s: it does not end", what)
	}
}

func TestEachPieceOnce(t *testing.T) { // CR4: each is hashed once, is told at its place, and is counted
	for _, p := range pools() {
		for _, n := range []int{0, 1, p.Workers, p.Workers + p.Queue + 5} {
			list := messages(n)
			counts := make([]atomic.Int64, n)
			outputs, hashed := byHands(p, list, func(x piece) []byte {
				counts[x.at].Add(1)
				return slices.Concat([]byte("of "), x.data)
			})
			if hashed != uint64(n) || len(outputs) != n {
				t.Fatalf("%v: %d of %d pieces, %d outputs", p, hashed, n, len(outputs))
			}
			for at := range counts {
				if got := counts[at].Load(); got != 1 {
					t.Errorf("%v: piece %d is hashed %d times", p, at, got)
				}
				if right := fmt.Sprint("of message ", at); string(outputs[at]) != right {
					t.Errorf("%v: piece %d tells %q", p, at, outputs[at])
				}
			}
		}
	}
}

func TestSideBySide(t *testing.T) { // Ways: as many hands at a time as the pool has, for each waits till all of them have begun
	for _, p := range []api.Pool{poolOf(1, 1), poolOf(2, 1), poolOf(7, 3), poolOf(api.MaxWorkers, 1)} {
		within(t, fmt.Sprint(p), func() {
			var begun sync.WaitGroup
			begun.Add(p.Workers)
			byHands(p, make([][]byte, p.Workers), func(piece) []byte {
				begun.Done()
				begun.Wait()
				return nil
			})
		})
	}
}

func TestNoMoreHandsThanWorkers(t *testing.T) { // CR4: by p.Workers hands at most
	for _, p := range []api.Pool{poolOf(1, 1), poolOf(2, 9), poolOf(5, 2)} {
		var atWork, most atomic.Int64
		byHands(p, make([][]byte, 60), func(piece) []byte {
			now := atWork.Add(1)
			for seen := most.Load(); now > seen && !most.CompareAndSwap(seen, now); seen = most.Load() {
			}
			time.Sleep(100 * time.Microsecond)
			atWork.Add(-1)
			return nil
		})
		if most.Load() > int64(p.Workers) || atWork.Load() != 0 {
			t.Errorf("%v: %d hands at a time, %d still at work", p, most.Load(), atWork.Load())
		}
	}
}
