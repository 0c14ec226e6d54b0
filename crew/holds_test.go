package crew

import (
	"bytes"
	"fmt"
	"runtime"
	"slices"
	"sync"
	"testing"
	"time"

	"quern/api"
)

// model is the chapter's words on a crew: it keeps all bytes, and hashes them when it is asked.
type model struct {
	tree   api.Tree
	data   []byte
	closed bool
}

// call is one of a script: what it is, and of a Write how many bytes.
type call struct {
	what string
	n    int
}

// make does a call on a crew and on its model, and holds what both tell.
func (m *model) make(t *testing.T, what string, c *Crew, x call) {
	t.Helper()
	right := api.OK
	if m.closed {
		right = api.ErrShut
	}
	switch x.what {
	case "write":
		b := pattern(len(m.data) + x.n)[len(m.data):]
		wantErrno(t, what+": Write", c.Write(b), right)
		if !m.closed {
			m.data = append(m.data, b...)
		}
	case "reset":
		wantErrno(t, what+": Reset", c.Reset(), right)
		m.data = nil
	case "close":
		wantErrno(t, what+": Close", c.Close(), api.OK)
		m.closed, m.data = true, nil
	case "sum":
		digest, e := c.Sum()
		if m.closed {
			wantNone(t, what+": Sum", digest, e, api.ErrShut)
			return
		}
		wantBytes(t, what+": Sum", digest, e, hashOf(t, m.tree, m.data))
	case "ask":
		m.ask(t, what, c)
	}
}

func (m *model) ask(t *testing.T, what string, c *Crew) {
	t.Helper()
	var rows []uint64
	if !m.closed {
		rows = rowsOf(t, m.tree, len(m.data))
	}
	if c.Written() != uint64(len(m.data)) || !slices.Equal(c.Rows(), rows) || c.Closed() != m.closed {
		t.Errorf("%s: Written %d, Rows %d, Closed %v", what, c.Written(), c.Rows(), c.Closed())
	}
}

func TestScriptsInEveryOrder(t *testing.T) { // CR6: all scripts of five calls
	calls := []call{{"write", 0}, {"write", 1}, {"write", 4}, {"write", 9}, {"sum", 0}, {"reset", 0}, {"close", 0}}
	count := len(calls) * len(calls) * len(calls) * len(calls) * len(calls)
	for number := range count {
		plan, p := trees()[number%len(trees())], pools()[number%5]
		c, m := crewOf(t, plan, p), model{tree: plan}
		rest := number
		for range 5 {
			m.make(t, fmt.Sprint("script ", number), c, calls[rest%len(calls)])
			rest /= len(calls)
		}
		m.make(t, fmt.Sprint("script ", number), c, call{what: "ask"})
		m.make(t, fmt.Sprint("script ", number), c, call{what: "sum"})
	}
}

// anyCall tells one of a long script: more Writes than all else, and Close but seldom.
func (c *chance) anyCall() call {
	switch c.below(20) {
	case 0, 1, 2:
		return call{what: "sum"}
	case 3, 4, 5:
		return call{what: "ask"}
	case 6:
		return call{what: "reset"}
	case 7:
		if c.below(4) == 0 {
			return call{what: "close"}
		}
		return call{what: "write", n: 300}
	}
	return call{what: "write", n: c.below(12)}
}

// playScript makes a long script of calls on a crew of its own.
func playScript(t *testing.T, seed int, p api.Pool) {
	c := chance(seed)
	plan := trees()[c.below(len(trees()))]
	crew, m := crewOf(t, plan, p), model{tree: plan}
	for i := range 60 {
		m.make(t, fmt.Sprintf("seed %d, %v, call %d", seed, p, i), crew, c.anyCall())
	}
}

func TestLongScripts(t *testing.T) { // CR6: whatever the workers and the queue
	for seed := range 60 {
		for _, p := range pools() {
			playScript(t, seed, p)
		}
	}
}

func TestTwoCrewsBesideOneAnother(t *testing.T) { // CR6, P5: they know nothing of one another, also with one tree and one pool
	for seed := range 60 {
		c := chance(1000 + seed)
		plan, other := trees()[c.below(len(trees()))], trees()[c.below(len(trees()))]
		if seed%2 == 0 {
			other = plan
		}
		crews := []*Crew{crewOf(t, plan, poolOf(3, 2)), crewOf(t, other, poolOf(3, 2))}
		models := []model{{tree: plan}, {tree: other}}
		for i := range 80 {
			at := c.below(2)
			models[at].make(t, fmt.Sprintf("seed %d, call %d, crew %d", seed, i, at), crews[at], c.anyCall())
		}
		for at := range crews {
			models[at].make(t, "at the end", crews[at], call{what: "ask"})
			models[at].make(t, "at the end", crews[at], call{what: "sum"})
		}
	}
}

func TestCrewsAtTheSameTime(t *testing.T) { // CR6, P5: from several goroutines, with a crew each
	var all sync.WaitGroup
	for i := range 48 {
		all.Go(func() { playScript(t, i/4, pools()[i%len(pools())]) })
	}
	all.Wait()
}

func TestOneMessageAtTheSameTime(t *testing.T) { // P4, P5: several calls read the same lists, and none of them writes there
	plan, data := grown(api.Small, 3, 255, 4), pattern(999)
	right := hashOf(t, plan, data)
	list := [][]byte{data, data[:100], nil, data}
	many := manyOf(t, plan, list)
	named, e := Named("blake2xb", 200, plan.Key, data)
	sure(t, "Named", named, e)
	var all sync.WaitGroup
	for i := range 24 {
		all.Go(func() {
			p := pools()[i%len(pools())]
			digest, e := Hash(plan, p, data)
			wantBytes(t, "Hash", digest, e, right)
			got, e := Many(plan, p, list)
			wantLists(t, "Many", got, e, many)
			c, e := New(plan, p)
			if e == api.OK {
				c.Write(data)
				digest, e = c.Sum()
			}
			wantBytes(t, "Sum", digest, e, right)
			digest, e = Named("blake2xb", 200, plan.Key, data)
			wantBytes(t, "Named", digest, e, named)
		})
	}
	all.Wait()
}

func TestOneAnswerWhoeverRuns(t *testing.T) { // CR6, P5: by one processor, and by more than there are
	defer runtime.GOMAXPROCS(runtime.GOMAXPROCS(0))
	plan, data := bare(api.Big, 2, 255, 3), pattern(2000)
	right := hashOf(t, plan, data)
	for _, n := range []int{1, 2, 64} {
		runtime.GOMAXPROCS(n)
		for _, p := range pools() {
			for range 3 {
				digest, e := Hash(plan, p, data)
				wantBytes(t, fmt.Sprint(n, " processors, ", p), digest, e, right)
			}
		}
	}
}

func TestRefusedCallsChangeNothing(t *testing.T) { // CR6, P2: calls of other crews and wrong arguments in between
	plan := grown(api.Big, 2, 255, 4)
	c := crewOf(t, plan, poolOf(2, 2))
	shutOne := crewOf(t, plan, poolOf(2, 2))
	shutOne.Close()
	var data []byte
	for i := range 30 {
		c.Write(pattern(i))
		data = append(data, pattern(i)...)
		for _, other := range []*Crew{nil, {}, shutOne} {
			other.Write(pattern(9))
			other.Sum()
			other.Reset()
			other.Close()
		}
		New(plan, api.Pool{})
		New(api.Tree{}, poolOf(1, 1))
		Hash(plan, poolOf(0, 1), pattern(50))
		Many(plan, poolOf(1, 1), make([][]byte, api.MaxJobs+1))
		Named("blake2b", 65, nil, data)
		wantCrew(t, fmt.Sprint("behind refused calls ", i), c, plan, data)
	}
	wantShut(t, "the one that is closed", shutOne)
}

// settled tells how many goroutines there are when those that only have to leave have left.
func settled(most int) int {
	n := runtime.NumGoroutine()
	for end := time.Now().Add(5 * time.Second); n > most && time.Now().Before(end); n = runtime.NumGoroutine() {
		time.Sleep(time.Millisecond)
	}
	return n
}

func TestNoGoroutineIsLeft(t *testing.T) { // CR4, P5: of all calls, also those that are refused
	time.Sleep(20 * time.Millisecond) // what earlier tests began has left by then
	before := runtime.NumGoroutine()
	plan, data := bare(api.Big, 2, 255, 4), pattern(9000)
	for _, p := range append(pools(), poolOf(0, 1), poolOf(1, api.MaxRoom+1)) {
		check := func(what string) {
			t.Helper()
			if n := settled(before); n > before {
				t.Errorf("%s, %v: %d goroutines, %d ahead of it", what, p, n, before)
			}
		}
		Hash(plan, p, data)
		check("Hash")
		Many(plan, p, slices.Repeat([][]byte{data[:100]}, 50))
		Many(plan, p, nil)
		Many(plan, p, make([][]byte, api.MaxJobs+1))
		check("Many")
		c, e := New(plan, p)
		if e != api.OK {
			continue
		}
		check("New")
		for range 3 {
			c.Write(data)
			check("Write")
			c.Sum()
			check("Sum")
		}
		c.Reset()
		c.Write(bytes.Repeat([]byte("x"), 30))
		c.Close()
		check("Close")
		for _, name := range Names() {
			Named(name, 32, nil, data)
		}
		check("Named")
	}
}
