package live

import (
	"fmt"
	"math"
	"slices"
	"testing"

	"quern/api"
)

// jobOf tells a job that may be, by a number.
func jobOf(i int) api.Job {
	return api.Job{Kind: kinds[i%2], Out: 24, Key: rising(i % 3), Data: fmt.Append(nil, "job ", i)}
}

func jobsOf(numbers ...int) []api.Job {
	var list []api.Job
	for _, i := range numbers {
		list = append(list, jobOf(i))
	}
	return list
}

func digestOf(t testing.TB, j api.Job) []byte {
	t.Helper()
	j.Fails = 0
	d := rightDone(t, 1, j)
	return sure(t, "the job", d.Digest, d.Why)
}

func TestFirst(t *testing.T) { // P16.4: none, one, several that tell want
	list := jobsOf(3, 1, 4, 1, 5, 9, 2, 6, 5, 3, 5, 8, 9, 7, 9)
	for _, p := range pools() {
		for i := range 12 {
			right := slices.Index([]int{3, 1, 4, 1, 5, 9, 2, 6, 5, 3, 5, 8, 9, 7, 9}, i)
			got, e := First(p, list, digestOf(t, jobOf(i)))
			wantFirst(t, fmt.Sprintf("job %d, %v", i, p), got, e, right)
		}
	}
}

func TestFirstOfNoJobs(t *testing.T) { // P16.4, P3
	for _, p := range pools() {
		for _, list := range [][]api.Job{nil, {}} {
			for _, want := range [][]byte{nil, {}, {1}, digestOf(t, jobOf(1))} {
				got, e := First(p, list, want)
				wantFirst(t, fmt.Sprint("no job, ", p), got, e, -1)
			}
		}
	}
}

func TestFirstOfEmptyWants(t *testing.T) { // P16.4: no job tells no bytes; not one whose parameters can't be either
	var list []api.Job
	for _, w := range wrongJobs() {
		list = append(list, w.job)
	}
	for _, jobs := range [][]api.Job{list, jobsOf(1, 2, 3), append(jobsOf(1), list...), {{}}, {{Kind: api.Big}}} {
		for _, want := range [][]byte{nil, {}} {
			for _, p := range pools() {
				got, e := First(p, jobs, want)
				wantFirst(t, fmt.Sprint("no bytes, ", p), got, e, -1)
			}
		}
	}
}

func TestFirstAmongWrongJobs(t *testing.T) { // P16.4: jobs whose parameters can't be tell nothing, and stop nothing
	for _, w := range wrongJobs() {
		list := append([]api.Job{w.job, w.job, w.job}, jobsOf(1, 2, 1)...)
		list = append(list, w.job)
		got, e := First(poolOf(2, 2), list, digestOf(t, jobOf(2)))
		wantFirst(t, fmt.Sprint(w.job), got, e, 4)
		got, e = First(poolOf(2, 2), list, digestOf(t, jobOf(3)))
		wantFirst(t, fmt.Sprint(w.job), got, e, -1)
	}
}

func TestFirstWhateverFails(t *testing.T) { // P16.4: Fails counts for nothing
	for _, fails := range []int{math.MinInt, -1, 0, 1, 7, 8, 9, math.MaxInt} {
		list := jobsOf(1, 2, 3, 2, 3)
		for i := range list {
			list[i].Fails = fails
		}
		for i := range 4 {
			got, e := First(poolOf(3, 1), list, digestOf(t, jobOf(i)))
			wantFirst(t, fmt.Sprintf("fails %d, job %d", fails, i), got, e, slices.Index([]int{1, 2, 3, 2, 3}, i))
		}
		list[1].Fails = 0 // one that does not fail, behind and ahead of those that do
		got, e := First(poolOf(3, 1), list, digestOf(t, jobOf(3)))
		wantFirst(t, fmt.Sprintf("fails %d, one that does not", fails), got, e, 2)
	}
}

func TestFirstTellsAllOfWant(t *testing.T) { // P16.4: a part of a digest, or more than it, is another one
	list := jobsOf(1, 2, 3)
	right := digestOf(t, jobOf(2))
	for _, want := range [][]byte{right[:23], right[1:], append(slices.Clone(right), 0), append([]byte{0}, right...), slices.Repeat(right, 2), make([]byte, 24)} {
		got, e := First(poolOf(2, 2), list, want)
		wantFirst(t, fmt.Sprintf("%x", want), got, e, -1)
	}
	for i := range right {
		want := slices.Clone(right)
		want[i] ^= 1
		got, e := First(poolOf(2, 2), list, want)
		wantFirst(t, fmt.Sprintf("%x", want), got, e, -1)
	}
}

func TestFirstOfShortDigests(t *testing.T) { // P16.4: several unlike jobs tell the same byte: the least place
	c := chance(4)
	for range 40 {
		list := c.jobs(120)
		for i := range list {
			if c.below(3) == 0 {
				list[i].Out = 1
			}
		}
		want := []byte{byte(c.below(256))}
		right := rightFirst(t, list, want)
		for _, p := range pools() {
			got, e := First(p, list, want)
			wantFirst(t, fmt.Sprintf("%x, %v", want, p), got, e, right)
		}
	}
}

func TestFirstThatTakesLong(t *testing.T) { // P16.4: the least place, though those behind it are done long ahead of it
	long := api.Job{Kind: api.Small, Out: 32, Data: pattern(300_000)}
	short := api.Job{Kind: api.Small, Out: 1, Data: []byte("x")}
	whole := digestOf(t, long)
	// As a job of one byte, the long one tells what a short one behind it tells too.
	long.Out = 1
	want := digestOf(t, long)
	for i := 0; ; i++ {
		short.Data = fmt.Append(nil, i)
		if slices.Equal(digestOf(t, short), want) {
			break
		}
	}
	list := []api.Job{jobOf(1), jobOf(2), long, short, short, short, short, short, short}
	for _, p := range pools() {
		for range 4 {
			got, e := First(p, list, want)
			wantFirst(t, fmt.Sprint(p), got, e, 2)
			got, e = First(p, list[3:], want)
			wantFirst(t, fmt.Sprint("without the long one, ", p), got, e, 0)
			got, e = First(p, list, whole)
			wantFirst(t, fmt.Sprint("the long one whole, ", p), got, e, -1)
		}
	}
}

func TestFirstOfManyJobs(t *testing.T) { // P16.4: more than Workers and Queue together; at the first, the last and other places
	numbers := make([]int, 3000)
	for i := range numbers {
		numbers[i] = i
	}
	list := jobsOf(numbers...)
	for _, p := range pools() {
		for _, at := range []int{0, 1, p.Workers, p.Workers + p.Queue, 2998, 2999} {
			got, e := First(p, list, digestOf(t, jobOf(at)))
			wantFirst(t, fmt.Sprint(p), got, e, at)
		}
		got, e := First(p, list, digestOf(t, jobOf(3000)))
		wantFirst(t, fmt.Sprint(p), got, e, -1)
	}
}

func TestFirstRefused(t *testing.T) { // ErrPool alone, and no place beside it
	for _, p := range noPools() {
		for _, list := range [][]api.Job{nil, jobsOf(1, 2)} {
			for _, want := range [][]byte{nil, digestOf(t, jobOf(2)), digestOf(t, jobOf(3))} {
				if got, e := First(p, list, want); e != api.ErrPool || got != 0 {
					t.Errorf("%v: %d, error %d", p, got, e)
				}
			}
		}
	}
}
