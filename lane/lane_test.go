package lane

import (
	"bytes"
	"fmt"
	"math"
	"reflect"
	"runtime"
	"sync"
	"testing"
	"time"

	"quern/api"
	"quern/node"
)

func TestExamples(t *testing.T) { // the chapter's examples
	lanes, e := Split(api.Small, pattern(100))
	wantLists(t, "Split", lanes, e, [][]byte{pattern(100)[:64], pattern(100)[64:], 7: nil})
	one := make([][]byte, 8)
	one[1] = []byte("x")
	b, e := Join(api.Small, one)
	wantNo(t, "Join", b, e, api.ErrLanes)
	b, e = Digest(api.Big, 64, nil, nil, nil, nil)
	if len(b) != 64 || e != api.OK || !bytes.HasPrefix(b, []byte{0xb5, 0xef, 0x81, 0x1a, 0x80, 0x38, 0xf7, 0x0b}) {
		t.Errorf("Digest: %x %d", b, e)
	}
	h, e := New(api.Big, 64, nil, nil, nil)
	wantOK(t, e)
	h.Write(make([]byte, 128))
	if n, at := h.Taken(); n != 128 || at != 1 {
		t.Errorf("Taken: %d %d", n, at)
	}
	h.Write(make([]byte, 384))
	if n, at := h.Taken(); n != 512 || at != 0 {
		t.Errorf("Taken: %d %d", n, at)
	}
	p, e := Params(api.Big, 64, 0, 4)
	if e != api.OK || p.Offset != 0 || p.NodeDepth != 1 {
		t.Errorf("Params: %v %d", p, e)
	}
	_, e = Params(api.Big, 64, 0, 5)
	wantErrno(t, "Params", e, api.ErrArg)
}

func TestCount(t *testing.T) { // P8.1
	for _, k := range kinds {
		if n, e := Count(k); n != sizesOf(k).lanes || e != api.OK {
			t.Errorf("Count(%d): %d %d", k, n, e)
		}
	}
	for _, k := range noKinds {
		if n, e := Count(k); n != 0 || e != api.ErrArg {
			t.Errorf("Count(%d): %d %d", k, n, e)
		}
	}
}

// rightParams tells what P8.1 has Params answer.
func rightParams(k api.Kind, digest, key, lane int) (api.Params, api.Errno) {
	z := sizesOf(k)
	switch {
	case lane < 0 || lane > z.lanes:
		return api.Params{}, api.ErrArg
	case digest < 1 || digest > z.most:
		return api.Params{}, api.ErrDigest
	case key < 0 || key > z.most:
		return api.Params{}, api.ErrKey
	case lane == z.lanes:
		return api.Params{Digest: digest, Key: key, Fanout: z.lanes, Depth: 2, NodeDepth: 1, Inner: z.most}, api.OK
	}
	return api.Params{Digest: digest, Key: key, Fanout: z.lanes, Depth: 2, Offset: uint64(lane), Inner: z.most}, api.OK
}

func TestParams(t *testing.T) { // P8.1, P1, P2: every lane, digest and key at its edges, in every mixture
	for _, k := range kinds {
		z := sizesOf(k)
		lanes := []int{-1, z.lanes + 1, 255, 256, math.MinInt, math.MaxInt, 1 << 32}
		for i := range z.lanes + 1 {
			lanes = append(lanes, i)
		}
		for _, lane := range lanes {
			for _, digest := range []int{0, 1, 2, z.most - 1, z.most, z.most + 1, -1, 257, math.MinInt, math.MaxInt} {
				for _, key := range []int{-1, 0, 1, z.most, z.most + 1, 256, math.MinInt, math.MaxInt} {
					p, e := Params(k, digest, key, lane)
					right, why := rightParams(k, digest, key, lane)
					if e != why || !reflect.DeepEqual(p, right) {
						t.Errorf("Params(%d, %d, %d, %d): %v %d, want %v %d", k, digest, key, lane, p, e, right, why)
					}
				}
			}
		}
	}
	for _, k := range noKinds {
		for _, lane := range []int{-1, 0, 4, 8, 9} {
			for _, digest := range []int{0, 1, 65} {
				if p, e := Params(k, digest, -1, lane); e != api.ErrArg || !reflect.DeepEqual(p, api.Params{}) {
					t.Errorf("Params(%d, %d, -1, %d): %v %d", k, digest, lane, p, e)
				}
			}
		}
	}
}

func TestCalls(t *testing.T) { // P8.3: every field of every call
	for _, k := range kinds {
		for _, n := range lengths(k) {
			for i, m := range settings(k, n) {
				calls, e := Calls(k, m.digest, m.key, m.salt, m.personal, m.data)
				wantCalls(t, fmt.Sprintf("kind %d, %d bytes, setting %d", k, n, i), calls, e, m.calls(t))
			}
		}
	}
}

func TestCallsLeadToTheDigest(t *testing.T) { // P8.3: the lanes' outputs are the root's data, the root's output is the digest
	for _, k := range kinds {
		for _, n := range lengths(k) {
			for _, m := range settings(k, n) {
				calls, e := Calls(k, m.digest, m.key, m.salt, m.personal, m.data)
				wantOK(t, e)
				last := len(calls) - 1
				var outputs []byte
				for _, c := range calls[:last] {
					b, e := node.Call(c)
					wantOK(t, e)
					outputs = append(outputs, b...)
				}
				want(t, "the root's data", calls[last].Data, e, outputs)
				digest, e := Digest(k, m.digest, m.key, m.salt, m.personal, m.data)
				wantOK(t, e)
				b, e := node.Call(calls[last])
				want(t, "the root's output", b, e, digest)
			}
		}
	}
}

func TestDigestAndBeside(t *testing.T) { // P8.3, P5
	for _, k := range kinds {
		for _, n := range lengths(k) {
			for _, m := range settings(k, n) {
				right := m.right(t)
				b, e := Digest(k, m.digest, m.key, m.salt, m.personal, m.data)
				want(t, "Digest", b, e, right)
				b, e = Beside(k, m.digest, m.key, m.salt, m.personal, m.data)
				want(t, "Beside", b, e, right)
			}
		}
	}
}

func TestToldDigests(t *testing.T) { // P8.3, P8.4
	for _, c := range toldDigests {
		m := told{c.kind, c.digest, rising(c.key), rising(c.salt), rising(c.personal), pattern(c.data)}
		wantDigest(t, fmt.Sprintf("kind %d, digest %d, key %d, salt %d, personal %d, %d bytes", c.kind, c.digest, c.key, c.salt, c.personal, c.data), m, unhex(t, c.want))
	}
}

func TestKnownDigests(t *testing.T) { // P8.3, P8.4
	for _, c := range knownDigests {
		counting := make([]byte, 255)
		for i := range counting {
			counting[i] = byte(i)
		}
		m := told{k: c.kind, digest: sizesOf(c.kind).most, data: counting[:c.data]}
		if c.keyed {
			m.key = counting[:sizesOf(c.kind).most]
		}
		wantDigest(t, fmt.Sprintf("kind %d, keyed %v, %d bytes", c.kind, c.keyed, c.data), m, unhex(t, c.want))
	}
}

// wantDigest asks for a digest in all ways.
func wantDigest(t *testing.T, what string, m told, right []byte) {
	t.Helper()
	b, e := Digest(m.k, m.digest, m.key, m.salt, m.personal, m.data)
	want(t, "Digest, "+what, b, e, right)
	b, e = Beside(m.k, m.digest, m.key, m.salt, m.personal, m.data)
	want(t, "Beside, "+what, b, e, right)
	h := m.hasher(t)
	wantErrno(t, "Write, "+what, h.Write(m.data), api.OK)
	wantSum(t, "Sum, "+what, h, right)
}

func TestRefusals(t *testing.T) { // P8.3, P8.4, P1, P2: each error, in its order
	for _, r := range refusals() {
		for _, data := range [][]byte{nil, []byte("abc"), pattern(1100)} {
			calls, e := Calls(r.k, r.digest, r.key, r.salt, r.personal, data)
			if len(calls) != 0 || e != r.why {
				t.Errorf("Calls, %s: %v %d, want error %d", r.what, calls, e, r.why)
			}
			b, e := Digest(r.k, r.digest, r.key, r.salt, r.personal, data)
			wantNo(t, "Digest, "+r.what, b, e, r.why)
			b, e = Beside(r.k, r.digest, r.key, r.salt, r.personal, data)
			wantNo(t, "Beside, "+r.what, b, e, r.why)
		}
		h, e := New(r.k, r.digest, r.key, r.salt, r.personal)
		if h != nil || e != r.why {
			t.Errorf("New, %s: %v %d, want error %d", r.what, h, e, r.why)
		}
	}
}

func TestNilAndEmpty(t *testing.T) { // P3
	none := []byte{}
	for _, k := range kinds {
		z := sizesOf(k)
		m := told{k: k, digest: z.most}
		right := m.right(t)
		for _, salt := range [][]byte{nil, none, make([]byte, 1), make([]byte, z.salt)} { // noughts behind a salt and a personal are worth nothing
			wantDigest(t, "empty lists", told{k, z.most, none, salt, salt, none}, right)
		}
		calls, e := Calls(k, z.most, none, none, none, none)
		wantCalls(t, "empty lists", calls, e, m.calls(t))
		// Of a key they are worth something.
		b, e := Digest(k, z.most, []byte{0}, nil, nil, nil)
		want(t, "a key of a nought", b, e, told{k: k, digest: z.most, key: []byte{0}}.right(t))
		if bytes.Equal(b, right) {
			t.Errorf("a key of a nought is worth nothing")
		}
	}
}

func TestLanesHangOnTheirBytesAlone(t *testing.T) { // P8.5: one byte that is another one changes the call of its lane, and the root's, and no others
	for _, k := range kinds {
		z := sizesOf(k)
		m := settings(k, 2*z.lanes*z.block+z.block+9)[7]
		base, e := Calls(k, m.digest, m.key, m.salt, m.personal, m.data)
		wantOK(t, e)
		for at := 0; at < len(m.data); at += 37 {
			other := bytes.Clone(m.data)
			other[at] ^= 0x80
			calls, e := Calls(k, m.digest, m.key, m.salt, m.personal, other)
			wantOK(t, e)
			for i := range calls {
				if like := i != at/z.block%z.lanes && i != z.lanes; like != sameCall(calls[i], base[i]) {
					t.Errorf("byte %d is another one: call %d is like: %v", at, i, !like)
				}
			}
		}
		// Messages of unlike lengths, too: what is dealt to the other lanes has no part in it.
		longer, e := Calls(k, m.digest, m.key, m.salt, m.personal, append(bytes.Clone(m.data), 1))
		wantOK(t, e)
		for i := range z.lanes {
			if like := i != 1; like != sameCall(longer[i], base[i]) {
				t.Errorf("a byte more for lane 1: call %d is like: %v", i, !like)
			}
		}
	}
}

func TestAnswersAreNew(t *testing.T) { // P4
	for _, k := range kinds {
		for _, n := range []int{0, 1, 100, 600, 2000} {
			m := settings(k, n)[7]
			args := [][]byte{m.key, m.salt, m.personal, m.data}
			wantOwn(t, "Calls", func(a [][]byte) [][]byte {
				calls, _ := Calls(k, m.digest, a[0], a[1], a[2], a[3])
				var lists [][]byte
				for _, c := range calls {
					lists = append(lists, c.Block, c.Key, c.Data)
				}
				return lists
			}, args...)
			wantOwn(t, "Digest", func(a [][]byte) [][]byte {
				b, _ := Digest(k, m.digest, a[0], a[1], a[2], a[3])
				return [][]byte{b}
			}, args...)
			wantOwn(t, "Beside", func(a [][]byte) [][]byte {
				b, _ := Beside(k, m.digest, a[0], a[1], a[2], a[3])
				return [][]byte{b}
			}, args...)
		}
	}
}

func TestBesideManyTimes(t *testing.T) { // P5: how goroutines run has no part in it, nor who else runs
	m := settings(api.Small, 1500)[3]
	right := m.right(t)
	var all sync.WaitGroup
	for range 8 {
		all.Go(func() {
			for range 50 {
				b, e := Beside(m.k, m.digest, m.key, m.salt, m.personal, m.data)
				want(t, "Beside", b, e, right)
			}
		})
	}
	all.Wait()
}

func TestBesideLeavesNobody(t *testing.T) { // P5: all goroutines have ended
	before := runtime.NumGoroutine()
	for range 100 {
		_, e := Beside(api.Small, 32, nil, nil, nil, pattern(3000))
		wantOK(t, e)
	}
	// One that has done its work may take a while to be let go.
	for range 1000 {
		if runtime.NumGoroutine() <= before {
			return
		}
		time.Sleep(time.Millisecond)
	}
	t.Errorf("%d goroutines, %d ahead of it", runtime.NumGoroutine(), before)
}
