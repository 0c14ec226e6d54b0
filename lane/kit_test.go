package lane

import (
	"bytes"
	"encoding/hex"
	"math"
	"testing"

	"quern/api"
	"quern/node"
)

// kinds are the two that are; noKinds are some that are none.
var (
	kinds   = []api.Kind{api.Big, api.Small}
	noKinds = []api.Kind{0, 3, -1, math.MinInt, math.MaxInt}
)

// sizes are a kind's numbers, as the chapter's words tell them.
type sizes struct {
	lanes, block, most, salt int
}

func sizesOf(k api.Kind) sizes {
	if k == api.Small {
		return sizes{lanes: 8, block: 64, most: 32, salt: 8}
	}
	return sizes{lanes: 4, block: 128, most: 64, salt: 16}
}

// lengths are those of messages at which the dealing out turns.
func lengths(k api.Kind) []int {
	z := sizesOf(k)
	all := z.lanes * z.block
	return []int{0, 1, z.block - 1, z.block, z.block + 1, 2*z.block - 1, 2 * z.block, 2*z.block + 1, all - z.block, all - z.block + 1, all - 1, all, all + 1, all + z.block, all + z.block + 1, 2*all - 1, 2 * all, 2*all + 1, 7*all + 2*z.block + 5}
}

func rising(n int) []byte {
	b := make([]byte, n)
	for i := range b {
		b[i] = byte(i + 1)
	}
	return b
}

func pattern(n int) []byte {
	b := make([]byte, n)
	for i := range b {
		b[i] = byte((i*i + 3*i) % 251)
	}
	return b
}

// told is all that a digest is made of.
type told struct {
	k                         api.Kind
	digest                    int
	key, salt, personal, data []byte
}

// settings are messages of one length with each of key, salt and personal alone, all of them and none, at their edges.
func settings(k api.Kind, n int) []told {
	z := sizesOf(k)
	key, salt, personal, data := rising(z.most), rising(z.salt), pattern(z.salt), pattern(n)
	return []told{
		{k: k, digest: z.most, data: data},
		{k: k, digest: 1, data: data},
		{k: k, digest: z.most - 1, key: key[:1], data: data},
		{k: k, digest: z.most, key: key, data: data},
		{k: k, digest: z.most / 2, salt: salt, data: data},
		{k: k, digest: z.most, salt: salt[:1], data: data},
		{k: k, digest: z.most, personal: personal, data: data},
		{k: k, digest: 1, key: key, salt: salt, personal: personal, data: data},
	}
}

// laneBytes tells the lanes' bytes, byte by byte.
func laneBytes(k api.Kind, data []byte) [][]byte {
	z := sizesOf(k)
	lanes := make([][]byte, z.lanes)
	for i, b := range data {
		at := i / z.block % z.lanes
		lanes[at] = append(lanes[at], b)
	}
	return lanes
}

// block tells a node's parameter block byte by byte, as chapter 2 lays it down.
func (m told) block(offset, row int) []byte {
	z := sizesOf(m.k)
	b := make([]byte, z.most)
	b[0], b[1], b[2], b[3] = byte(m.digest), byte(len(m.key)), byte(z.lanes), 2
	b[8] = byte(offset)
	nodeDepth := 16
	if m.k == api.Small {
		nodeDepth = 14
	}
	b[nodeDepth], b[nodeDepth+1] = byte(row), byte(z.most)
	copy(b[len(b)/2:], m.salt)
	copy(b[len(b)*3/4:], m.personal)
	return b
}

// calls tells the calls as the chapter's words have them.
func (m told) calls(t *testing.T) []api.Call {
	t.Helper()
	z := sizesOf(m.k)
	var calls []api.Call
	var outputs []byte
	for i, data := range laneBytes(m.k, m.data) {
		c := api.Call{Kind: m.k, Block: m.block(i, 0), Key: m.key, Last: i == z.lanes-1, Out: z.most, Data: data}
		b, e := node.Call(c)
		wantOK(t, e)
		calls, outputs = append(calls, c), append(outputs, b...)
	}
	return append(calls, api.Call{Kind: m.k, Block: m.block(0, 1), Last: true, Out: m.digest, Data: outputs})
}

// right tells the digest as the chapter's words have it.
func (m told) right(t *testing.T) []byte {
	t.Helper()
	calls := m.calls(t)
	b, e := node.Call(calls[len(calls)-1])
	wantOK(t, e)
	return b
}

// hasher tells one that has taken nothing.
func (m told) hasher(t *testing.T) *Hasher {
	t.Helper()
	h, e := New(m.k, m.digest, m.key, m.salt, m.personal)
	wantOK(t, e)
	return h
}

// refusal is what Calls, Digest, Beside and New refuse, and how.
type refusal struct {
	what                string
	k                   api.Kind
	digest              int
	key, salt, personal []byte
	why                 api.Errno
}

// refusals are each error of the root's parameters, alone and ahead of all behind it.
func refusals() []refusal {
	var list []refusal
	for _, k := range noKinds {
		list = append(list,
			refusal{"kind", k, 1, nil, nil, nil, api.ErrArg},
			refusal{"kind and all", k, 0, rising(65), rising(17), rising(17), api.ErrArg})
	}
	for _, k := range kinds {
		z := sizesOf(k)
		key, salt := rising(z.most+1), rising(z.salt+1)
		for _, digest := range []int{0, -1, z.most + 1, 256, 257, math.MinInt, math.MaxInt, 1<<32 + 1} {
			list = append(list,
				refusal{"digest", k, digest, nil, nil, nil, api.ErrDigest},
				refusal{"digest and all behind", k, digest, key, salt, salt, api.ErrDigest})
		}
		for _, digest := range []int{1, z.most} {
			list = append(list,
				refusal{"key", k, digest, key, nil, nil, api.ErrKey},
				refusal{"key and all behind", k, digest, key, salt, salt, api.ErrKey},
				refusal{"a key longer than a byte can tell", k, digest, rising(256), nil, nil, api.ErrKey},
				refusal{"salt", k, digest, key[1:], salt, nil, api.ErrSalt},
				refusal{"salt and personal", k, digest, nil, salt, salt, api.ErrSalt},
				refusal{"a salt of noughts", k, digest, nil, make([]byte, len(salt)), nil, api.ErrSalt},
				refusal{"personal", k, digest, key[1:], salt[1:], salt, api.ErrPersonal},
				refusal{"a personal of noughts", k, digest, nil, nil, make([]byte, len(salt)), api.ErrPersonal})
		}
	}
	return list
}

func wantOK(t *testing.T, e api.Errno) {
	t.Helper()
	if e != api.OK {
		t.Fatalf("error %d", e)
	}
}

func wantErrno(t *testing.T, what string, e, right api.Errno) {
	t.Helper()
	if e != right {
		t.Errorf("%s: %d, want %d", what, e, right)
	}
}

func want(t *testing.T, what string, got []byte, e api.Errno, right []byte) {
	t.Helper()
	if e != api.OK || !bytes.Equal(got, right) {
		t.Errorf("%s: %x %d, want %x", what, got, e, right)
	}
}

func wantNo(t *testing.T, what string, got []byte, e, right api.Errno) {
	t.Helper()
	if e != right || len(got) != 0 {
		t.Errorf("%s: %x %d, want error %d", what, got, e, right)
	}
}

func wantLists(t *testing.T, what string, got [][]byte, e api.Errno, right [][]byte) {
	t.Helper()
	if e != api.OK || len(got) != len(right) {
		t.Errorf("%s: %d lists, error %d, want %d", what, len(got), e, len(right))
		return
	}
	for i := range right {
		if !bytes.Equal(got[i], right[i]) {
			t.Errorf("%s: list %d: %x, want %x", what, i, got[i], right[i])
		}
	}
}

// sameCall tells whether two calls are alike in every field, nil and empty lists being one.
func sameCall(a, b api.Call) bool {
	return a.Kind == b.Kind && bytes.Equal(a.Block, b.Block) && bytes.Equal(a.Key, b.Key) && a.Last == b.Last && a.Out == b.Out && bytes.Equal(a.Data, b.Data)
}

func wantCalls(t *testing.T, what string, got []api.Call, e api.Errno, right []api.Call) {
	t.Helper()
	if e != api.OK || len(got) != len(right) {
		t.Errorf("%s: %d calls, error %d, want %d", what, len(got), e, len(right))
		return
	}
	for i := range right {
		if !sameCall(got[i], right[i]) {
			t.Errorf("%s: call %d: %v, want %v", what, i, got[i], right[i])
		}
	}
}

// wantTaken asks a hasher how far it is, by the bytes that were taken.
func wantTaken(t *testing.T, h *Hasher, k api.Kind, taken int) {
	t.Helper()
	z := sizesOf(k)
	n, lane := h.Taken()
	if n != uint64(taken) || lane != taken/z.block%z.lanes {
		t.Errorf("Taken: %d %d, want %d %d", n, lane, taken, taken/z.block%z.lanes)
	}
}

func wantSum(t *testing.T, what string, h *Hasher, right []byte) {
	t.Helper()
	if got := h.Sum(); !bytes.Equal(got, right) {
		t.Errorf("%s: %x, want %x", what, got, right)
	}
}

func unhex(t *testing.T, s string) []byte {
	t.Helper()
	b, err := hex.DecodeString(s)
	if err != nil {
		t.Fatal(err)
	}
	return b
}

// roomy lays b into a longer list, with marks in the room behind its end; still tells whether it is all as it was.
func roomy(b []byte) (list []byte, still func() bool) {
	whole := append(bytes.Clone(b), bytes.Repeat([]byte{0xa5}, 300)...)
	before := bytes.Clone(whole)
	return whole[:len(b)], func() bool { return bytes.Equal(whole, before) }
}

// spoil overwrites a list and the room behind its end.
func spoil(b []byte) {
	whole := b[:cap(b)]
	for i := range whole {
		whole[i] ^= 0xff
	}
}

// wantOwn asks a call for its lists twice, and spoils those of the first answer one by one, with their rooms: nothing else may tell of it, neither the arguments nor the other lists of both answers.
func wantOwn(t *testing.T, what string, call func(args [][]byte) [][]byte, args ...[]byte) {
	t.Helper()
	var given [][]byte
	var stills []func() bool
	for _, a := range args {
		list, still := roomy(a)
		given, stills = append(given, list), append(stills, still)
	}
	first := call(given)
	var before [][]byte
	for _, b := range first {
		before = append(before, bytes.Clone(b))
	}
	second := call(given)
	for i := range first {
		if !bytes.Equal(first[i], before[i]) {
			t.Errorf("%s: list %d shares memory with another one", what, i)
		}
		spoil(first[i])
	}
	for i, still := range stills {
		if !still() {
			t.Errorf("%s: argument %d has changed", what, i)
		}
	}
	wantLists(t, what+", asked again", second, api.OK, before)
	wantLists(t, what+", asked once more", call(given), api.OK, before)
}
