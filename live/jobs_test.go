package live

import (
	"fmt"
	"math"
	"testing"

	"quern/api"
)

func TestJobs(t *testing.T) { // P16.1: no job, one, fewer and more than Workers and Queue together
	c := chance(1)
	for _, p := range pools() {
		for _, n := range []int{0, 1, 2, 3, p.Workers, p.Workers + 1, p.Workers + p.Queue, p.Workers + p.Queue + 1, 2*p.Workers + 3*p.Queue} {
			list := c.jobs(n)
			tries := 1 + c.below(api.MaxTries)
			got, e := Jobs(p, tries, list)
			wantDones(t, fmt.Sprintf("%v, %d jobs, %d tries", p, n, tries), got, e, rightDones(t, tries, list))
		}
	}
}

func TestNoJobs(t *testing.T) { // P16.1, P3
	for _, p := range pools() {
		for _, list := range [][]api.Job{nil, {}} {
			for tries := 1; tries <= api.MaxTries; tries++ {
				got, e := Jobs(p, tries, list)
				wantDones(t, fmt.Sprint("no job, ", p), got, e, nil)
			}
		}
	}
}

func TestWorkOfJobs(t *testing.T) { // P16.1: Out, Key and Data at their edges
	for _, k := range kinds {
		z := sizesOf(k)
		var list []api.Job
		for _, out := range []int{1, 2, z.most - 1, z.most} {
			for _, key := range [][]byte{nil, {}, {0}, rising(1), rising(z.most - 1), rising(z.most), make([]byte, z.most)} {
				for _, n := range []int{0, 1, z.block - 1, z.block, z.block + 1, 2 * z.block, 5*z.block + 7} {
					list = append(list, api.Job{Kind: k, Out: out, Key: key, Data: pattern(n)})
				}
			}
		}
		got, e := Jobs(poolOf(4, 3), 1, list)
		wantDones(t, fmt.Sprint("kind ", k), got, e, rightDones(t, 1, list))
	}
}

func TestTriesOfJobs(t *testing.T) { // P16.1: Fails below 0, 0, below tries, at tries, above, and how often it was begun
	for _, k := range kinds {
		for tries := 1; tries <= api.MaxTries; tries++ {
			for _, fails := range []int{math.MinInt, -tries, -1, 0, 1, 2, tries - 1, tries, tries + 1, 8, 9, 1 << 32, math.MaxInt} {
				j := api.Job{Kind: k, Out: 32, Key: rising(3), Data: []byte("abc"), Fails: fails}
				digest := rightDone(t, 1, api.Job{Kind: k, Out: 32, Key: rising(3), Data: []byte("abc")}).Digest
				right := api.Done{Tries: tries, Why: api.ErrBroken}
				switch {
				case fails <= 0:
					right = api.Done{Digest: digest, Tries: 1}
				case fails < tries:
					right = api.Done{Digest: digest, Tries: fails + 1}
				}
				got, e := Jobs(poolOf(2, 2), tries, []api.Job{j})
				wantDones(t, fmt.Sprintf("fails %d, %d tries", fails, tries), got, e, []api.Done{right})
			}
		}
	}
}

// wrongJob is a job whose parameters can't be, and why.
type wrongJob struct {
	job api.Job
	why api.Errno
}

func wrongJobs() []wrongJob {
	var list []wrongJob
	for _, k := range noKinds {
		list = append(list,
			wrongJob{api.Job{Kind: k, Out: 32}, api.ErrArg},
			wrongJob{api.Job{Kind: k, Out: 0, Key: rising(65)}, api.ErrArg})
	}
	for _, k := range kinds {
		z := sizesOf(k)
		for _, out := range []int{0, -1, z.most + 1, 256, 257, 1<<32 + 1, math.MinInt, math.MaxInt} {
			list = append(list,
				wrongJob{api.Job{Kind: k, Out: out}, api.ErrDigest},
				wrongJob{api.Job{Kind: k, Out: out, Key: rising(z.most + 1)}, api.ErrDigest})
		}
		for _, n := range []int{z.most + 1, 100, 256, 257} {
			list = append(list, wrongJob{api.Job{Kind: k, Out: z.most, Key: rising(n)}, api.ErrKey})
		}
	}
	return list
}

func TestJobsThatCannotBe(t *testing.T) { // P16.1: the error of param.Plain, Tries 1 whatever Fails is, no digest
	for tries := 1; tries <= api.MaxTries; tries++ {
		var list []api.Job
		var right []api.Done
		for _, w := range wrongJobs() {
			for _, fails := range []int{math.MinInt, -1, 0, 1, tries - 1, tries, tries + 1, math.MaxInt} {
				j := w.job
				j.Fails, j.Data = fails, pattern(fails&63)
				list, right = append(list, j), append(right, api.Done{Tries: 1, Why: w.why})
			}
		}
		got, e := Jobs(poolOf(3, 2), tries, list)
		wantDones(t, fmt.Sprint(tries, " tries"), got, e, right)
	}
}

func TestOrderOfAnswers(t *testing.T) { // P16.1: in the jobs' order, though the first ones take by far the longest
	var list []api.Job
	for i := range 60 {
		list = append(list, api.Job{Kind: api.Big, Out: 20, Data: pattern((60 - i) * (60 - i) * 20), Fails: i % 4})
	}
	right := rightDones(t, 3, list)
	for _, p := range pools() {
		for range 5 {
			got, e := Jobs(p, 3, list)
			wantDones(t, fmt.Sprint(p), got, e, right)
		}
	}
}

func TestJobsBesideBrokenOnes(t *testing.T) { // P16.1, P16.5, G2: a job that panics is told, and nothing else of it
	for _, p := range pools() {
		for every := 1; every <= 4; every++ {
			var list []api.Job
			for i := range 100 {
				j := api.Job{Kind: kinds[i%2], Out: 32, Data: pattern(i)}
				if i%every == 0 {
					j.Fails = 5
				}
				list = append(list, j)
			}
			got, e := Jobs(p, 5, list)
			wantDones(t, fmt.Sprintf("%v, each of %d broken", p, every), got, e, rightDones(t, 5, list))
		}
	}
}

func TestJobsRefused(t *testing.T) { // ErrPool, then ErrArg of tries; no answers beside
	c := chance(2)
	for _, list := range [][]api.Job{nil, {}, c.jobs(1), c.jobs(5)} {
		refused := func(p api.Pool, tries int, why api.Errno) {
			t.Helper()
			if got, e := Jobs(p, tries, list); e != why || len(got) != 0 {
				t.Errorf("%v, %d tries: %v, error %d, want %d", p, tries, got, e, why)
			}
		}
		for _, p := range noPools() {
			for _, tries := range append([]int{1, api.MaxTries}, noTries...) {
				refused(p, tries, api.ErrPool)
			}
		}
		for _, p := range pools() {
			for _, tries := range noTries {
				refused(p, tries, api.ErrArg)
			}
		}
	}
}
