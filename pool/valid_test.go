package pool

import (
	"testing"

	"quern/api"
)

func TestValid(t *testing.T) { // PO1
	for _, p := range pools() {
		if e := Valid(p); e != api.OK {
			t.Errorf("Valid(%v): error %d", p, e)
		}
	}
	for _, p := range noPools() {
		if e := Valid(p); e != api.ErrPool {
			t.Errorf("Valid(%v): error %d", p, e)
		}
	}
	for workers := -2; workers <= 260; workers++ {
		right := api.OK
		if workers < 1 || workers > 256 {
			right = api.ErrPool
		}
		if e := Valid(poolOf(workers, 1)); e != right {
			t.Errorf("Valid with %d workers: error %d", workers, e)
		}
	}
	for queue := -2; queue <= 1030; queue++ {
		right := api.OK
		if queue < 1 || queue > 1024 {
			right = api.ErrPool
		}
		if e := Valid(poolOf(1, queue)); e != right {
			t.Errorf("Valid with a queue of %d: error %d", queue, e)
		}
	}
}

func TestBuffers(t *testing.T) { // PO1: Queue and Workers together, but 64 at most
	for _, x := range []struct{ workers, queue, right int }{
		{1, 1, 2}, {1, 2, 3}, {2, 1, 3}, {7, 9, 16},
		{1, 62, 63}, {1, 63, 64}, {1, 64, 64},
		{62, 1, 63}, {63, 1, 64}, {64, 1, 64},
		{31, 32, 63}, {32, 32, 64}, {33, 32, 64}, {32, 33, 64},
		{1, 1024, 64}, {256, 1, 64}, {256, 1024, 64},
	} {
		if n, e := Buffers(poolOf(x.workers, x.queue)); n != x.right || e != api.OK {
			t.Errorf("%d workers, a queue of %d: %d buffers, error %d, want %d", x.workers, x.queue, n, e, x.right)
		}
	}
	for _, p := range pools() {
		if n, e := Buffers(p); n != rightBuffers(p) || e != api.OK {
			t.Errorf("Buffers(%v): %d, error %d", p, n, e)
		}
	}
	for _, p := range noPools() {
		if n, e := Buffers(p); n != 0 || e != api.ErrPool {
			t.Errorf("Buffers(%v): %d, error %d", p, n, e)
		}
	}
}
