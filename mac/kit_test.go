package mac

import (
	"bytes"
	"math"
	"testing"

	"quern/api"
	"quern/node"
)

// kinds are the two that are; noKinds are some that are none.
var (
	kinds   = []api.Kind{api.Big, api.Small}
	noKinds = []api.Kind{0, 3, -1, math.MinInt, math.MaxInt}
)

// badLengths are numbers of bytes that no digest of the kind has.
func badLengths(k api.Kind) []int {
	return []int{0, -1, mostOf(k) + 1, 256 + 1, 1<<32 + 1, math.MinInt, math.MaxInt}
}

func mostOf(k api.Kind) int {
	if k == api.Small {
		return 32
	}
	return 64
}

func saltOf(k api.Kind) int { return mostOf(k) / 4 }

func blockOf(k api.Kind) int { return 2 * mostOf(k) }

func rising(n int) []byte {
	b := make([]byte, n)
	for i := range b {
		b[i] = byte(i + 1)
	}
	return b
}

func pattern(n int) []byte {
	b := make([]byte, n)
	for i := range b {
		b[i] = byte((i*i + 3*i) % 251)
	}
	return b
}

func lists(parts ...string) [][]byte {
	var out [][]byte
	for _, p := range parts {
		out = append(out, []byte(p))
	}
	return out
}

// byChapter tells the digest as the chapter's words have it.
func byChapter(t *testing.T, k api.Kind, n int, key, salt, personal, data []byte) []byte {
	t.Helper()
	p := api.Params{Digest: n, Key: len(key), Fanout: 1, Depth: 1, Salt: salt, Personal: personal}
	b, e := node.Hash(k, p, key, false, n, data)
	wantOK(t, e)
	return b
}

func wantOK(t *testing.T, e api.Errno) {
	t.Helper()
	if e != api.OK {
		t.Fatalf("error %d", e)
	}
}

func want(t *testing.T, what string, got []byte, e api.Errno, right []byte) {
	t.Helper()
	if e != api.OK || !bytes.Equal(got, right) {
		t.Errorf("%s: %x %d, want %x", what, got, e, right)
	}
}

func wantNo(t *testing.T, what string, got []byte, e, right api.Errno) {
	t.Helper()
	if e != right || len(got) != 0 {
		t.Errorf("%s: %x %d, want error %d", what, got, e, right)
	}
}

// roomy lays b into a longer list, with marks in the room behind its end; still tells whether it is all as it was.
func roomy(b []byte) (list []byte, still func() bool) {
	whole := append(bytes.Clone(b), bytes.Repeat([]byte{0xa5}, 300)...)
	before := bytes.Clone(whole)
	return whole[:len(b)], func() bool { return bytes.Equal(whole, before) }
}

// spoil overwrites a list and the room behind its end.
func spoil(b []byte) {
	whole := b[:cap(b)]
	for i := range whole {
		whole[i] ^= 0xff
	}
}

// wantOwn asks a call for its answer twice, and spoils the first one, with its room: neither the arguments nor the second answer may tell of it.
func wantOwn(t *testing.T, what string, call func(args [][]byte) []byte, args ...[]byte) {
	t.Helper()
	var given [][]byte
	var stills []func() bool
	for _, a := range args {
		list, still := roomy(a)
		given, stills = append(given, list), append(stills, still)
	}
	first := call(given)
	before := bytes.Clone(first)
	second := call(given)
	spoil(first)
	for i, still := range stills {
		if !still() {
			t.Errorf("%s: argument %d has changed", what, i)
		}
	}
	if !bytes.Equal(second, before) {
		t.Errorf("%s: %x and then %x", what, before, second)
	}
}
