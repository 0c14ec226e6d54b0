package live

import (
	"fmt"
	"runtime"
	"slices"
	"sync"
	"testing"
	"time"

	"quern/api"
)

// allAnswers tells what all calls answer at one pool, as a text.
func allAnswers(p api.Pool, seed int) string {
	c := chance(seed)
	jobs := c.jobs(40)
	plan := trees()[c.below(len(trees()))]
	data := pattern(c.below(150))
	fails := make([]int, c.below(50))
	for i := range fails {
		fails[i] = c.below(4)
	}
	tries := 2 + c.below(4)
	done, e1 := Jobs(p, tries, jobs)
	leaves, e2 := Leaves(plan, p, data)
	digest, e3 := Hash(plan, p, data)
	shaken, broken, e4 := Shaken(plan, p, tries, fails, data)
	many, e5 := Many(plan, p, [][]byte{data, nil, data[:len(data)/2], data})
	first, e6 := First(p, jobs, done[c.below(40)].Digest)
	return fmt.Sprint(done, e1, leaves, e2, digest, e3, shaken, broken, e4, many, e5, first, e6)
}

func TestOneAnswer(t *testing.T) { // P16.5, G1: with one worker and with MaxWorkers, a queue of 1 and of MaxRoom, again and again
	for seed := range 30 {
		right := allAnswers(poolOf(1, 1), seed)
		for _, p := range pools() {
			for range 3 {
				if allAnswers(p, seed) != right {
					t.Errorf("seed %d, %v: told otherwise than by one worker", seed, p)
				}
			}
		}
	}
}

func TestOneAnswerWhoeverRuns(t *testing.T) { // P16.5: by one processor, and by more than there are
	defer runtime.GOMAXPROCS(runtime.GOMAXPROCS(0))
	right := map[int]string{}
	for _, n := range []int{1, 2, 64} {
		runtime.GOMAXPROCS(n)
		for seed := 100; seed < 110; seed++ {
			for _, p := range []api.Pool{poolOf(1, 1), poolOf(7, 2), poolOf(api.MaxWorkers, 1)} {
				got := allAnswers(p, seed)
				if right[seed] == "" {
					right[seed] = got
				}
				if got != right[seed] {
					t.Errorf("seed %d, %v, %d processors: told otherwise", seed, p, n)
				}
			}
		}
	}
}

func TestCallsAtTheSameTime(t *testing.T) { // P16.5, P5: calls know nothing of one another
	texts := make([]string, 64)
	var all sync.WaitGroup
	for i := range texts {
		all.Go(func() { texts[i] = allAnswers(pools()[i%len(pools())], i/8) })
	}
	all.Wait()
	for i, text := range texts {
		if text != allAnswers(poolOf(1, 1), i/8) {
			t.Errorf("call %d: told otherwise", i)
		}
	}
}

func TestOneListAtTheSameTime(t *testing.T) { // P4, P5: several calls read the same lists, and none of them writes there
	c := chance(5)
	jobs := c.jobs(50)
	plan, data := grown(api.Small, 3, 255, 4), pattern(111)
	fails := slices.Repeat([]int{0, 1, 2}, 20)
	right, digest := rightDones(t, 3, jobs), hashOf(t, plan, data)
	want := digestOf(t, jobOf(1))
	jobs = append(jobs, jobOf(1), jobOf(1))
	right = append(right, api.Done{Digest: want, Tries: 1}, api.Done{Digest: want, Tries: 1})
	place := rightFirst(t, jobs, want)
	var all sync.WaitGroup
	for i := range 24 {
		all.Go(func() {
			p := pools()[i%len(pools())]
			got, e := Jobs(p, 3, jobs)
			wantDones(t, fmt.Sprint(p), got, e, right)
			d, broken, e := Shaken(plan, p, 3, fails, data)
			wantShaken(t, fmt.Sprint(p), d, broken, e, digest)
			first, e := First(p, jobs, want)
			wantFirst(t, fmt.Sprint(p), first, e, place)
		})
	}
	all.Wait()
}

// settled tells how many goroutines there are when those that only have to leave have left.
func settled(most int) int {
	n := runtime.NumGoroutine()
	for end := time.Now().Add(5 * time.Second); n > most && time.Now().Before(end); n = runtime.NumGoroutine() {
		time.Sleep(time.Millisecond)
	}
	return n
}

func TestNoGoroutineIsLeft(t *testing.T) { // P16.5: of all calls, also where jobs panicked, were refused, or where a search stopped early
	time.Sleep(20 * time.Millisecond) // what earlier tests began has left by then
	before := runtime.NumGoroutine()
	for _, p := range append(pools(), poolOf(0, 1), poolOf(1, api.MaxRoom+1)) {
		broken := slices.Repeat([]api.Job{{Kind: api.Big, Out: 64, Fails: 99}}, 300)
		Jobs(p, 8, broken)
		Jobs(p, 8, nil)
		Jobs(p, 0, broken)
		plan, data := bare(api.Big, 2, 255, 4), pattern(700)
		Leaves(plan, p, data)
		Hash(plan, p, data)
		Hash(plan, p, nil)
		Hash(api.Tree{}, p, data)
		Shaken(plan, p, 2, slices.Repeat([]int{9}, 300), data)
		Many(plan, p, slices.Repeat([][]byte{data}, 20))
		Many(plan, p, nil)
		First(p, slices.Repeat(jobsOf(1, 2), 3000), digestOf(t, jobOf(1)))
		First(p, jobsOf(1, 2), nil)
		if n := settled(before); n > before {
			t.Errorf("%v: %d goroutines, %d ahead of the calls", p, n, before)
		}
	}
}

func TestAloneAndAmongOthers(t *testing.T) { // P16.5: a job's answer is the same alone and among others, at each place
	c := chance(6)
	jobs := c.jobs(60)
	for tries := 1; tries <= api.MaxTries; tries++ {
		among, e := Jobs(poolOf(5, 3), tries, jobs)
		sure(t, "Jobs", among, e)
		turned := slices.Clone(jobs)
		slices.Reverse(turned)
		backwards, e := Jobs(poolOf(5, 3), tries, turned)
		slices.Reverse(backwards)
		wantDones(t, "backwards", backwards, e, among)
		for i, j := range jobs {
			alone, e := Jobs(poolOf(1, 1), tries, []api.Job{j})
			wantDones(t, fmt.Sprint("alone, job ", i), alone, e, among[i:i+1])
		}
	}
}

func TestManyAsHash(t *testing.T) { // P16.2, P16.3, P16.5: a message's digest is the same alone, among others, and shaken
	plan := grown(api.Big, 2, 255, 4)
	l := [][]byte{pattern(9), nil, pattern(50), pattern(4)}
	many, e := Many(plan, poolOf(3, 1), l)
	sure(t, "Many", many, e)
	for i, data := range l {
		digest, e := Hash(plan, poolOf(2, 2), data)
		wantBytes(t, "Hash", digest, e, many[i])
		digest, broken, e := Shaken(plan, poolOf(2, 2), 2, []int{1, 1}, data)
		wantShaken(t, "Shaken", digest, broken, e, many[i])
	}
}
