package node

import (
	"bytes"
	"encoding/binary"
	"math/rand"
	"testing"

	"quern/api"
	"quern/mixb"
	"quern/mixs"
	"quern/param"
)

// setup is a hasher to be made, and the flag that it is to have.
type setup struct {
	name string
	kind api.Kind
	p    api.Params
	key  []byte
	last bool
}

// setups are hashers of both kinds and both forms, with and without keys and flags.
func setups() []setup {
	var list []setup
	for _, k := range []api.Kind{api.Big, api.Small} {
		name, most := map[api.Kind]string{api.Big: "Big ", api.Small: "Small "}[k], stateOf(k)
		list = append(list,
			setup{name + "plain", k, api.Params{Digest: most, Fanout: 1, Depth: 1}, nil, false},
			setup{name + "keyed", k, api.Params{Digest: 20, Key: most, Fanout: 1, Depth: 1}, rising(most), false},
			setup{name + "tree", k, treeParams(most - 1), []byte("key"), true},
			setup{name + "flag", k, api.Params{Digest: 1, Fanout: 1, Depth: 1}, nil, true},
			setup{name + "key that is told but not handed in", k, api.Params{Digest: most / 2, Key: 5, Fanout: 1, Depth: 1}, nil, false},
			setup{name + "extended alone", k, api.Params{Digest: most, Leaf: 64, Offset: 3, Xof: 100, Inner: most}, nil, false},
			setup{name + "extended", k, api.Params{Digest: 7, Key: 1, Fanout: 1, Depth: 1, Xof: 0xffff, Personal: []byte("p")}, []byte{0}, true},
		)
	}
	return list
}

// treeParams have all fields of the plain form set.
func treeParams(digest int) api.Params {
	return api.Params{Digest: digest, Key: 3, Fanout: 2, Depth: 3, Leaf: 5, Offset: 7<<32 + 6, NodeDepth: 1, Inner: 9, Salt: []byte("salt"), Personal: []byte("personal")}
}

func blockOf(k api.Kind) int { return map[api.Kind]int{api.Big: 128, api.Small: 64}[k] }

func stateOf(k api.Kind) int { return blockOf(k) / 2 }

// edges are the lengths of messages at which something changes.
func edges(k api.Kind) []int {
	b := blockOf(k)
	return []int{0, 1, b - 1, b, b + 1, 2*b - 1, 2 * b, 2*b + 1, 3 * b}
}

func rising(n int) []byte {
	b := make([]byte, n)
	for i := range b {
		b[i] = byte(i + 1)
	}
	return b
}

func pattern(n int) []byte {
	b := make([]byte, n)
	for i := range b {
		b[i] = byte((i*i + 3*i) % 251)
	}
	return b
}

func someBytes(r *rand.Rand, n int) []byte {
	b := make([]byte, n)
	r.Read(b)
	return b
}

// made tells a hasher of a setup, its flag set as the setup says.
func made(t *testing.T, s setup) *Node {
	t.Helper()
	n, e := New(s.kind, s.p, s.key)
	if e != api.OK || n == nil {
		t.Fatalf("%s: New: %d", s.name, e)
	}
	if s.last {
		wantOK(t, n.Last(true))
	}
	return n
}

func wantOK(t *testing.T, e api.Errno) {
	t.Helper()
	if e != api.OK {
		t.Fatalf("error %d", e)
	}
}

func encoded(t *testing.T, s setup) []byte {
	t.Helper()
	block, e := param.Encode(s.kind, s.p)
	wantOK(t, e)
	return block
}

// message tells the key's block, if there is one, and the data.
func (s setup) message(data []byte) []byte {
	var m []byte
	if len(s.key) > 0 {
		m = make([]byte, blockOf(s.kind))
		copy(m, s.key)
	}
	return append(m, data...)
}

// reckoned is a state of either kind, into which blocks go one by one.
type reckoned struct {
	kind  api.Kind
	big   [8]uint64
	small [8]uint32
}

// goIn puts a block in, with noughts behind it if it is a short one.
func (r *reckoned) goIn(t *testing.T, piece []byte, count int, last, node bool) {
	t.Helper()
	whole := make([]byte, blockOf(r.kind))
	copy(whole, piece)
	if r.kind == api.Big {
		m, e := mixb.Words(whole)
		wantOK(t, e)
		r.big = mixb.F(r.big, m, api.Count{Lo: uint64(count)}, last, node)
		return
	}
	m, e := mixs.Words(whole)
	wantOK(t, e)
	r.small = mixs.F(r.small, m, uint64(count), last, node)
}

func (r *reckoned) bytes() []byte {
	if r.kind == api.Big {
		return mixb.Bytes(r.big)
	}
	return mixs.Bytes(r.small)
}

// aheadOfLast tells the state behind all blocks of a message but its last one, and where that begins.
func aheadOfLast(t *testing.T, k api.Kind, block, message []byte) (reckoned, int) {
	t.Helper()
	r := reckoned{kind: k}
	r.big, _ = mixb.Start(block)
	r.small, _ = mixs.Start(block)
	from, size := 0, blockOf(k)
	for len(message)-from > size {
		r.goIn(t, message[from:from+size], from+size, false, false)
		from += size
	}
	return r, from
}

// byChapter tells the output as the chapter's words have it, of the whole message at once.
func byChapter(t *testing.T, s setup, data []byte) []byte {
	t.Helper()
	m := s.message(data)
	r, from := aheadOfLast(t, s.kind, encoded(t, s), m)
	r.goIn(t, m[from:], len(m), true, s.last)
	return r.bytes()
}

// saved tells a hasher's bytes as the chapter has them.
func saved(t *testing.T, s setup, data []byte) []byte {
	t.Helper()
	m, block := s.message(data), encoded(t, s)
	r, from := aheadOfLast(t, s.kind, block, m)
	b := []byte{'N', byte(s.kind), 0, byte(len(s.key))}
	if s.last {
		b[2] = 1
	}
	b = append(b, block...)
	b = append(b, s.key...)
	b = append(b, r.bytes()...)
	b = binary.LittleEndian.AppendUint64(b, uint64(from))
	if s.kind == api.Big {
		b = append(b, make([]byte, 8)...)
	}
	b = append(b, byte(len(m)-from))
	return append(b, m[from:]...)
}

// roomy lays b into a longer list, with marks in the room behind its end; still tells whether it is all as it was.
func roomy(b []byte) (list []byte, still func() bool) {
	whole := append(bytes.Clone(b), bytes.Repeat([]byte{0xa5}, 300)...)
	before := bytes.Clone(whole)
	return whole[:len(b)], func() bool { return bytes.Equal(whole, before) }
}

// spoil overwrites a list and the room behind its end.
func spoil(b []byte) {
	whole := b[:cap(b)]
	for i := range whole {
		whole[i] ^= 0xff
	}
}

// wantAll holds all that a hasher tells against what the chapter says of a setup and data.
func wantAll(t *testing.T, n *Node, s setup, data []byte) {
	t.Helper()
	want := byChapter(t, s, data)
	if got := n.Sum(); !bytes.Equal(got, want[:s.p.Digest]) {
		t.Errorf("%s, %d bytes: Sum %x, want %x", s.name, len(data), got, want[:s.p.Digest])
	}
	if got, e := n.Out(len(want)); !bytes.Equal(got, want) || e != api.OK {
		t.Errorf("%s, %d bytes: Out %x %d, want %x", s.name, len(data), got, e, want)
	}
	if got := n.Written(); got != uint64(len(data)) {
		t.Errorf("%s, %d bytes: Written %d", s.name, len(data), got)
	}
	if got, want := n.Save(), saved(t, s, data); !bytes.Equal(got, want) {
		t.Errorf("%s, %d bytes: Save %x, want %x", s.name, len(data), got, want)
	}
}
