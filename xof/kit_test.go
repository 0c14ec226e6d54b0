package xof

import (
	"bytes"
	"encoding/hex"
	"math"
	"testing"

	"quern/api"
	"quern/node"
)

// kinds are the two that are; noKinds are some that are none.
var (
	kinds   = []api.Kind{api.Big, api.Small}
	noKinds = []api.Kind{0, 3, -1, math.MinInt, math.MaxInt}
)

// sizeOf tells the bytes of a root, of a piece, and the most of a key.
func sizeOf(k api.Kind) int {
	if k == api.Small {
		return 32
	}
	return 64
}

func saltOf(k api.Kind) int { return sizeOf(k) / 4 }

// longestOf tells the greatest length that may be told.
func longestOf(k api.Kind) int {
	if k == api.Small {
		return 1<<16 - 2
	}
	return 1<<32 - 2
}

// totalOf tells how many bytes come out in all.
func totalOf(k api.Kind, length int) uint64 {
	if length == api.Unknown {
		return uint64(sizeOf(k)) << 32
	}
	return uint64(length)
}

// badLengths are those that no stream of the kind has.
func badLengths(k api.Kind) []int {
	most := longestOf(k)
	return []int{0, -2, -3, most + 1, most + 2, most + 3, 1<<32 - 1, 1 << 32, 1<<32 + 1, 1 << 33, -1 << 32, 1<<32 - 1 + 1<<40, math.MinInt, math.MaxInt}
}

func rising(n int) []byte {
	b := make([]byte, n)
	for i := range b {
		b[i] = byte(i + 1)
	}
	return b
}

func pattern(n int) []byte {
	b := make([]byte, n)
	for i := range b {
		b[i] = byte((i*i + 3*i) % 251)
	}
	return b
}

// told is all that a stream is made of.
type told struct {
	k                         api.Kind
	length                    int
	key, salt, personal, data []byte
}

func (m told) code() uint32 {
	if m.length == api.Unknown {
		return uint32(longestOf(m.k) + 1)
	}
	return uint32(m.length)
}

// root tells the root as the chapter's words have it.
func (m told) root(t *testing.T) []byte {
	t.Helper()
	p := api.Params{Digest: sizeOf(m.k), Key: len(m.key), Fanout: 1, Depth: 1, Xof: m.code(), Salt: m.salt, Personal: m.personal}
	b, e := node.Hash(m.k, p, m.key, false, sizeOf(m.k), m.data)
	wantOK(t, e)
	return b
}

// piece tells piece i as the chapter's words have it.
func (m told) piece(t *testing.T, i uint64) []byte {
	t.Helper()
	size := sizeOf(m.k)
	n := size
	if left := totalOf(m.k, m.length) - i*uint64(size); left < uint64(size) {
		n = int(left)
	}
	p := api.Params{Digest: n, Leaf: uint32(size), Offset: i, Xof: m.code(), Inner: size, Salt: m.salt, Personal: m.personal}
	b, e := node.Hash(m.k, p, nil, false, n, m.root(t))
	wantOK(t, e)
	return b
}

// stream tells n bytes of the stream from a place on, or as many as there are, as the chapter's words have it.
func (m told) stream(t *testing.T, from uint64, n int) []byte {
	t.Helper()
	size := uint64(sizeOf(m.k))
	first := from / size
	var all []byte
	for i := first; i*size < totalOf(m.k, m.length) && uint64(len(all)) < from-first*size+uint64(n); i++ {
		all = append(all, m.piece(t, i)...)
	}
	ahead := min(from-first*size, uint64(len(all)))
	rest := all[ahead:]
	return rest[:min(n, len(rest))]
}

// begun tells a stream to which data was written.
func (m told) begun(t *testing.T) *Stream {
	t.Helper()
	s, e := New(m.k, m.length, m.key, m.salt, m.personal)
	wantOK(t, e)
	wantErrno(t, "Write", s.Write(m.data), api.OK)
	return s
}

func wantOK(t *testing.T, e api.Errno) {
	t.Helper()
	if e != api.OK {
		t.Fatalf("error %d", e)
	}
}

func wantErrno(t *testing.T, what string, e, right api.Errno) {
	t.Helper()
	if e != right {
		t.Errorf("%s: %d, want %d", what, e, right)
	}
}

func want(t *testing.T, what string, got []byte, e api.Errno, right []byte) {
	t.Helper()
	if e != api.OK || !bytes.Equal(got, right) {
		t.Errorf("%s: %x %d, want %x", what, got, e, right)
	}
}

func wantNo(t *testing.T, what string, got []byte, e, right api.Errno) {
	t.Helper()
	if e != right || len(got) != 0 {
		t.Errorf("%s: %x %d, want error %d", what, got, e, right)
	}
}

// wantRead reads n bytes, which must be right.
func wantRead(t *testing.T, s *Stream, n int, right []byte) {
	t.Helper()
	b, e := s.Read(n)
	want(t, "Read", b, e, right)
}

func wantSkip(t *testing.T, s *Stream, n, right uint64) {
	t.Helper()
	if got, e := s.Skip(n); got != right || e != api.OK {
		t.Errorf("Skip(%d): %d %d, want %d", n, got, e, right)
	}
}

// wantAt asks a stream of so many bytes in all where it stands.
func wantAt(t *testing.T, s *Stream, at, total uint64) {
	t.Helper()
	if s.At() != at || s.Left() != total-at {
		t.Errorf("At %d, Left %d, want %d, %d", s.At(), s.Left(), at, total-at)
	}
}

// wantEnd asks a stream at its end for all that it says there.
func wantEnd(t *testing.T, s *Stream) {
	t.Helper()
	at := s.At()
	for _, n := range []int{1, 2, api.MaxTake} {
		b, e := s.Read(n)
		wantNo(t, "Read at the end", b, e, api.ErrEnd)
	}
	for _, n := range []uint64{1, 64, math.MaxUint64} {
		if got, e := s.Skip(n); got != 0 || e != api.ErrEnd {
			t.Errorf("Skip(%d) at the end: %d %d", n, got, e)
		}
	}
	wantRead(t, s, 0, nil)
	wantSkip(t, s, 0, 0)
	wantErrno(t, "Write at the end", s.Write(nil), api.ErrState)
	if s.At() != at || s.Left() != 0 {
		t.Errorf("at the end: At %d, Left %d, want %d, 0", s.At(), s.Left(), at)
	}
}

func unhex(t *testing.T, s string) []byte {
	t.Helper()
	b, err := hex.DecodeString(s)
	if err != nil {
		t.Fatal(err)
	}
	return b
}

// roomy lays b into a longer list, with marks in the room behind its end; still tells whether it is all as it was.
func roomy(b []byte) (list []byte, still func() bool) {
	whole := append(bytes.Clone(b), bytes.Repeat([]byte{0xa5}, 300)...)
	before := bytes.Clone(whole)
	return whole[:len(b)], func() bool { return bytes.Equal(whole, before) }
}

// spoil overwrites a list and the room behind its end.
func spoil(b []byte) {
	whole := b[:cap(b)]
	for i := range whole {
		whole[i] ^= 0xff
	}
}

// wantOwn asks a call for its answer twice, and spoils the first one, with its room: neither the arguments nor the second answer may tell of it.
func wantOwn(t *testing.T, what string, call func(args [][]byte) []byte, args ...[]byte) {
	t.Helper()
	var given [][]byte
	var stills []func() bool
	for _, a := range args {
		list, still := roomy(a)
		given, stills = append(given, list), append(stills, still)
	}
	first := call(given)
	before := bytes.Clone(first)
	second := call(given)
	spoil(first)
	for i, still := range stills {
		if !still() {
			t.Errorf("%s: argument %d has changed", what, i)
		}
	}
	if len(before) == 0 || !bytes.Equal(second, before) {
		t.Errorf("%s: %x and then %x", what, before, second)
	}
}
