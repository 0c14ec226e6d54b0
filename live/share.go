package live

import (
	"sync"

	"quern/api"
)

// share hands out the places from 0 up to, but not with, n, as long as more holds of them, over a bounded channel to a pool's workers. When it comes back, all that was handed out is done, and all workers have ended.
func share(p api.Pool, n int, more func(at int) bool, do func(at int)) {
	jobs := make(chan int, p.Queue)
	var workers sync.WaitGroup
	// A worker without a job would have nothing to do.
	for range min(p.Workers, n) {
		workers.Add(1)
		go func() {
			defer workers.Done()
			for at := range jobs {
				do(at)
			}
		}()
	}
	for at := range n {
		if !more(at) {
			break
		}
		jobs <- at
	}
	close(jobs)
	workers.Wait()
}

// answers tells those of n tasks, in order: each is laid down at its task's place, whoever did it when.
func answers(p api.Pool, tries, n int, taskAt func(at int) task) []api.Done {
	done := make([]api.Done, n)
	all := func(int) bool { return true }
	share(p, n, all, func(at int) { done[at] = taskAt(at).answer(tries) })
	return done
}
