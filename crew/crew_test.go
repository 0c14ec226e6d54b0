package crew

import (
	"bytes"
	"fmt"
	"math"
	"slices"
	"testing"

	"quern/api"
	"quern/shape"
)

func wantNoCrew(t *testing.T, what string, plan api.Tree, p api.Pool, why api.Errno) {
	t.Helper()
	if c, e := New(plan, p); c != nil || e != why {
		t.Errorf("New, %s, %v: %v, error %d, want nil and %d", what, p, c, e, why)
	}
}

func TestNewRefusesTrees(t *testing.T) { // CR1: shape.Valid's error, also where the pool may not be
	for _, f := range faults() {
		if e := shape.Valid(f.tree); e != f.why {
			t.Fatalf("shape.Valid, %s: error %d, want %d", f.what, e, f.why)
		}
		for _, p := range slices.Concat(pools(), noPools()) {
			wantNoCrew(t, f.what, f.tree, p, f.why)
		}
	}
	wantNoCrew(t, "nothing", api.Tree{}, api.Pool{}, api.ErrArg)
}

func TestNewRefusesPools(t *testing.T) { // CR1: Workers and Queue of 0, below 0, one above the most
	for _, plan := range append(trees(), greatest(api.Big), greatest(api.Small), least(api.Big), least(api.Small)) {
		for _, p := range noPools() {
			wantNoCrew(t, fmt.Sprint(plan), plan, p, api.ErrPool)
		}
	}
}

func TestNew(t *testing.T) { // CR1: open, nothing written, with trees and pools at their ends
	for _, plan := range append(trees(), greatest(api.Big), greatest(api.Small), least(api.Big), least(api.Small)) {
		for _, p := range pools() {
			wantCrew(t, fmt.Sprint(plan, p), crewOf(t, plan, p), plan, nil)
		}
	}
}

func TestNewCopies(t *testing.T) { // CR1, P4: a tree that is changed behind the call
	for i, plan := range trees() {
		given := plan
		given.Key, given.Salt, given.Personal = bytes.Clone(plan.Key), bytes.Clone(plan.Salt), bytes.Clone(plan.Personal)
		c := crewOf(t, given, poolOf(2, 2))
		spoil := func(by byte) {
			for _, list := range [][]byte{given.Key, given.Salt, given.Personal} {
				for j := range list {
					list[j] ^= by
				}
			}
		}
		spoil(0x31)
		wantCrew(t, fmt.Sprint("tree ", i), c, plan, nil)
		c.Write(pattern(21))
		spoil(0x17)
		wantCrew(t, fmt.Sprint("tree ", i), c, plan, pattern(21))
		wantErrno(t, "Reset", c.Reset(), api.OK)
		spoil(0x71)
		c.Write(pattern(9))
		wantCrew(t, fmt.Sprint("tree ", i), c, plan, pattern(9))
	}
}

func TestWriteAtOnce(t *testing.T) { // CR2: nothing written, one byte, a leaf, one more, several rows, with and without a key
	for i, plan := range trees() {
		for _, n := range lengths {
			for _, p := range []api.Pool{poolOf(1, 1), poolOf(3, 2), poolOf(api.MaxWorkers, api.MaxRoom)} {
				c := crewOf(t, plan, p)
				wantErrno(t, "Write", c.Write(pattern(n)), api.OK)
				wantCrew(t, fmt.Sprintf("tree %d, %d bytes, %v", i, n, p), c, plan, pattern(n))
			}
		}
	}
}

func TestWriteByteByByte(t *testing.T) { // CR2: Sum, Written and Rows behind each byte; writing on after it
	for i, plan := range trees() {
		c := crewOf(t, plan, poolOf(3, 2))
		data := pattern(70)
		for n := range data {
			wantErrno(t, "Write", c.Write(data[n:n+1]), api.OK)
			wantCrew(t, fmt.Sprintf("tree %d, %d bytes", i, n+1), c, plan, data[:n+1])
		}
	}
}

func TestWriteNothing(t *testing.T) { // CR2, P3: nil and no bytes, ahead of all, behind a byte, behind a full leaf
	for i, plan := range trees() {
		for _, n := range []int{0, 1, 4, 5, 8, 9, 16} {
			c := crewOf(t, plan, poolOf(2, 1))
			c.Write(pattern(n))
			for _, b := range [][]byte{nil, {}, nil, make([]byte, 0, 50)} {
				wantErrno(t, "Write", c.Write(b), api.OK)
				wantCrew(t, fmt.Sprintf("tree %d, %d bytes", i, n), c, plan, pattern(n))
			}
		}
	}
}

// cutBy tells data in pieces: behind byte i it is cut where bit i is set.
func cutBy(data []byte, bits int) [][]byte {
	var list [][]byte
	from := 0
	for i := 1; i < len(data); i++ {
		if bits>>(i-1)&1 == 1 {
			list, from = append(list, data[from:i]), i
		}
	}
	return append(list, data[from:])
}

func TestCutInEveryWay(t *testing.T) { // CR6, G1: eleven bytes in leaves of two and of three, in all 1024 ways
	data := pattern(11)
	for _, plan := range []api.Tree{grown(api.Big, 2, 255, 2), bare(api.Small, 2, 3, 2), bare(api.Big, 0, 2, 3), grown(api.Small, 3, 4, 3)} {
		right := hashOf(t, plan, data)
		for bits := range 1 << 10 {
			c := crewOf(t, plan, poolOf(2, 2))
			for _, b := range cutBy(data, bits) {
				wantErrno(t, "Write", c.Write(b), api.OK)
			}
			digest, e := c.Sum()
			wantBytes(t, fmt.Sprintf("cut by %b", bits), digest, e, right)
		}
	}
}

func TestCutInTwoAndThree(t *testing.T) { // CR6, G1: at each place, with Sums and empty Writes in between
	data := pattern(41)
	for _, plan := range []api.Tree{grown(api.Small, 2, 255, 4), bare(api.Big, 3, 3, 4)} {
		for i := range 42 {
			for j := i; j < 42; j++ {
				c := crewOf(t, plan, poolOf(3, 1))
				c.Write(data[:i])
				if j%2 == 0 {
					c.Sum()
					c.Write(nil)
				}
				c.Write(data[i:j])
				c.Write(data[j:])
				wantCrew(t, fmt.Sprintf("cut at %d and %d", i, j), c, plan, data)
			}
		}
	}
}

func TestOtherLeaves(t *testing.T) { // CR2: leaves of one byte, around a block, longer than any message
	for _, k := range kinds {
		z := sizesOf(k)
		for _, leaf := range []uint32{1, uint32(z.block) - 1, uint32(z.block), uint32(z.block) + 1, 1000, math.MaxUint32 - 1, math.MaxUint32} {
			for _, plan := range []api.Tree{bare(k, 2, 255, leaf), grown(k, 0, 2, leaf)} {
				c := crewOf(t, plan, poolOf(3, 2))
				var data []byte
				for _, n := range []int{1, z.block - 1, 1, 3 * z.block, 1000, 1, 1001} {
					data = append(data, pattern(n)...)
					c.Write(pattern(n))
					wantCrew(t, fmt.Sprintf("leaves of %d, %d bytes", leaf, len(data)), c, plan, data)
				}
			}
		}
	}
}

func TestMoreThanABatch(t *testing.T) { // CR2, CR4, G1: as many leaves as go to the hands at a time, one less, one more, several times as many
	for _, plan := range []api.Tree{bare(api.Small, 255, 255, 1), grown(api.Big, 2, 6, 1), bare(api.Big, 0, 2, 1)} {
		for _, n := range []int{batch - 1, batch, batch + 1, batch + 2, 2*batch + 1, 2*batch + 2, 3*batch + 77} {
			data := pattern(n)
			for _, p := range []api.Pool{poolOf(5, 3), poolOf(api.MaxWorkers, api.MaxRoom)} {
				c := crewOf(t, plan, p)
				c.Write(data)
				wantCrew(t, fmt.Sprintf("%d bytes, %v", n, p), c, plan, data)
				c.Write(data)
				wantCrew(t, fmt.Sprintf("twice %d bytes, %v", n, p), c, plan, slices.Concat(data, data))
			}
		}
	}
}

func TestSumChangesNothing(t *testing.T) { // CR2: twice, and writing on after it
	for i, plan := range trees() {
		for _, n := range lengths {
			c := crewOf(t, plan, poolOf(2, 2))
			c.Write(pattern(n))
			first, e := c.Sum()
			right := hashOf(t, plan, pattern(n))
			wantBytes(t, "Sum", first, e, right)
			for range 3 {
				again, e := c.Sum()
				wantBytes(t, fmt.Sprintf("tree %d, %d bytes, once more", i, n), again, e, right)
			}
			c.Write([]byte("more"))
			wantCrew(t, fmt.Sprintf("tree %d, %d bytes and more", i, n), c, plan, append(pattern(n), "more"...))
		}
	}
}

func TestReset(t *testing.T) { // CR2: nothing is written, and what is written behind it stands alone
	for i, plan := range trees() {
		c := crewOf(t, plan, poolOf(3, 2))
		for _, n := range lengths {
			what := fmt.Sprintf("tree %d, behind %d bytes", i, n)
			c.Write(pattern(n))
			wantErrno(t, what, c.Reset(), api.OK)
			wantCrew(t, what, c, plan, nil)
			wantErrno(t, what+", twice", c.Reset(), api.OK)
			wantCrew(t, what, c, plan, nil)
			c.Write([]byte("something else"))
			wantCrew(t, what, c, plan, []byte("something else"))
			c.Reset()
		}
	}
}

func TestClose(t *testing.T) { // CR2: each call behind it, with nothing, with some and with many bytes written
	for i, plan := range trees() {
		for _, n := range lengths {
			c := crewOf(t, plan, poolOf(2, 2))
			c.Write(pattern(n))
			if c.Closed() {
				t.Errorf("tree %d, %d bytes: Closed ahead of Close", i, n)
			}
			wantErrno(t, "Close", c.Close(), api.OK)
			wantShut(t, fmt.Sprintf("tree %d, %d bytes", i, n), c)
		}
	}
}

func TestCloseKeepsNothing(t *testing.T) { // LANGUAGE, 8: neither key nor message
	c := crewOf(t, grown(api.Big, 2, 255, 4), poolOf(2, 2))
	c.Write(pattern(30))
	c.Close()
	if len(c.tree.Key) != 0 || len(c.held) != 0 || len(c.rows) != 0 || c.leaves != 0 {
		t.Errorf("closed: %v", *c)
	}
}

func TestACrewIsSmall(t *testing.T) { // LANGUAGE, 8: of a message only a leaf is kept, and of each row fewer outputs than go up
	plan := bare(api.Small, 3, 255, 4)
	c := crewOf(t, plan, poolOf(4, 4))
	for i := range 300 {
		c.Write(pattern(i % 90))
		if len(c.held) > int(plan.Leaf) {
			t.Fatalf("%d bytes are held", len(c.held))
		}
		for row, outputs := range c.rows {
			if len(outputs) > (plan.Fanout-1)*plan.Inner {
				t.Fatalf("row %d: %d bytes are kept", row, len(outputs))
			}
		}
	}
}

func TestMoreLeavesThanATreeHas(t *testing.T) { // CR2: where there is no digest, Sum tells the error, and changes nothing
	plan := bare(api.Small, 0, 2, 1)
	c := crewOf(t, plan, poolOf(1, 1))
	c.Write([]byte("a"))
	c.leaves = 1 << 48 // nobody can write as much
	for range 2 {
		digest, e := c.Sum()
		wantNone(t, "Sum", digest, e, api.ErrLong)
		if got := c.Rows(); len(got) != 0 {
			t.Errorf("Rows: %d", got)
		}
		if got := c.Written(); got != 1<<48+1 {
			t.Errorf("Written: %d", got)
		}
	}
	wantErrno(t, "Reset", c.Reset(), api.OK)
	wantCrew(t, "behind Reset", c, plan, nil)
}

func TestNobody(t *testing.T) { // CR3: a nil crew, and one that no call made
	var zero Crew
	for what, c := range map[string]*Crew{"nil": nil, "zero": &zero, "new": new(Crew), "literal": {}} {
		wantDead(t, what, c, api.ErrZero, api.ErrZero, false)
	}
}
