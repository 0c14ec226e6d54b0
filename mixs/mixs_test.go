package mixs

import (
	"bytes"
	"encoding/binary"
	"encoding/hex"
	"math"
	"math/big"
	"math/rand"
	"testing"

	"quern/api"
	"quern/param"
)

type chain = [8]uint32

// roomy lays b into a longer list, with marks in the room behind its end; still tells whether it is all as it was.
func roomy(b []byte) (list []byte, still func() bool) {
	whole := append(bytes.Clone(b), bytes.Repeat([]byte{0xa5}, 200)...)
	before := bytes.Clone(whole)
	return whole[:len(b)], func() bool { return bytes.Equal(whole, before) }
}

func someBytes(r *rand.Rand, n int) []byte {
	b := make([]byte, n)
	r.Read(b)
	return b
}

func someChain(r *rand.Rand) chain {
	var h chain
	for i := range h {
		h[i] = r.Uint32()
	}
	return h
}

// The words as the chapter has them.
var wantIV = chain{
	0x6a09e667, 0xbb67ae85, 0x3c6ef372, 0xa54ff53a,
	0x510e527f, 0x9b05688c, 0x1f83d9ab, 0x5be0cd19,
}

func TestIV(t *testing.T) { // P4.1
	if IV() != wantIV {
		t.Errorf("IV: %x", IV())
	}
	for i, prime := range []int64{2, 3, 5, 7, 11, 13, 17, 19} {
		root := new(big.Int).Lsh(big.NewInt(prime), 64)
		root.Sqrt(root)
		if behindPoint := uint32(root.Uint64()); IV()[i] != behindPoint {
			t.Errorf("IV: word %d is %x, the root of %d tells %x", i, IV()[i], prime, behindPoint)
		}
	}
}

func TestWords(t *testing.T) { // P4.1
	r := rand.New(rand.NewSource(51))
	for range 50 {
		b, still := roomy(someBytes(r, 64))
		m, e := Words(b)
		if e != api.OK {
			t.Fatalf("Words: %d", e)
		}
		for i, w := range m {
			if w != binary.LittleEndian.Uint32(b[4*i:]) {
				t.Errorf("Words: word %d is %x", i, w)
			}
		}
		if !still() {
			t.Error("Words changed its argument, or the room behind it")
		}
	}
	last := make([]byte, 64)
	last[63] = 0x80
	if m, e := Words(last); m != (state{15: 1 << 31}) || e != api.OK {
		t.Errorf("Words of the highest bit: %x %d", m, e)
	}
}

func wantSize(n, size int) api.Errno {
	switch {
	case n < size:
		return api.ErrShort
	case n > size:
		return api.ErrLong
	}
	return api.OK
}

func TestWordsRefuses(t *testing.T) { // P4.1, P2, P3
	if m, e := Words(nil); m != (state{}) || e != api.ErrShort {
		t.Errorf("Words(nil): %x %d", m, e)
	}
	for n := range 200 {
		// The room behind the end is no part of the list.
		b, still := roomy(bytes.Repeat([]byte{0xff}, n))
		m, e := Words(b)
		if e != wantSize(n, 64) || n != 64 && m != (state{}) {
			t.Errorf("Words of %d bytes: %x %d", n, m, e)
		}
		if !still() {
			t.Errorf("Words changed its %d bytes, or the room behind them", n)
		}
	}
}

func TestBytes(t *testing.T) { // P4.1
	r := rand.New(rand.NewSource(52))
	for range 50 {
		h := someChain(r)
		var want []byte
		for _, w := range h {
			want = binary.LittleEndian.AppendUint32(want, w)
		}
		if b := Bytes(h); !bytes.Equal(b, want) {
			t.Errorf("Bytes(%x) = %x", h, b)
		}
	}
	if b := Bytes(chain{}); !bytes.Equal(b, make([]byte, 32)) {
		t.Errorf("Bytes of noughts: %x", b)
	}
}

func TestBytesIsNewMemory(t *testing.T) { // P4
	h := IV()
	first, second := Bytes(h), Bytes(h)
	want := bytes.Clone(second)
	whole := first[:cap(first)]
	for i := range whole {
		whole[i] ^= 0xff
	}
	if !bytes.Equal(second, want) || !bytes.Equal(Bytes(h), want) || IV() != wantIV {
		t.Error("two answers share memory")
	}
}

func TestStart(t *testing.T) { // P4.1
	r := rand.New(rand.NewSource(53))
	for range 50 {
		block, still := roomy(someBytes(r, 32))
		h, e := Start(block)
		if e != api.OK {
			t.Fatalf("Start: %d", e)
		}
		for i, w := range h {
			if w != wantIV[i]^binary.LittleEndian.Uint32(block[4*i:]) {
				t.Errorf("Start: word %d is %x", i, w)
			}
		}
		if !still() {
			t.Error("Start changed its argument, or the room behind it")
		}
	}
	if h, e := Start(make([]byte, 32)); h != wantIV || e != api.OK {
		t.Errorf("Start of noughts: %x %d", h, e)
	}
}

func TestStartRefuses(t *testing.T) { // P4.1, P2, P3
	if h, e := Start(nil); h != (chain{}) || e != api.ErrShort {
		t.Errorf("Start(nil): %x %d", h, e)
	}
	for n := range 150 {
		block, still := roomy(bytes.Repeat([]byte{1}, n))
		h, e := Start(block)
		if e != wantSize(n, 32) || n != 32 && h != (chain{}) {
			t.Errorf("Start of %d bytes: %x %d", n, h, e)
		}
		if !still() {
			t.Errorf("Start changed its %d bytes, or the room behind them", n)
		}
	}
}

// abc is what the chapter's example hashes: the chain, and the message's words.
func abc(t *testing.T) (h chain, m state) {
	t.Helper()
	h, e := Start(append([]byte{0x20, 0, 1, 1}, make([]byte, 28)...))
	if e != api.OK {
		t.Fatalf("Start: %d", e)
	}
	m, e = Words(append([]byte("abc"), make([]byte, 61)...))
	if e != api.OK {
		t.Fatalf("Words: %d", e)
	}
	return h, m
}

func TestStartOfPlainParameters(t *testing.T) { // P4.1: the chapter's example
	p, e := param.Plain(api.Small, 32, 0)
	if e != api.OK {
		t.Fatalf("Plain: %d", e)
	}
	block, e := param.Encode(api.Small, p)
	if e != api.OK {
		t.Fatalf("Encode: %d", e)
	}
	want := wantIV
	want[0] = 0x6b08e647
	if h, e := Start(block); h != want || e != api.OK {
		t.Errorf("Start: %x %d", h, e)
	}
	if h, _ := abc(t); h != want {
		t.Errorf("Start: %x", h)
	}
}

var someCounts = []uint64{0, 1, 3, 64, math.MaxUint32, 1 << 32, 1<<32 + 1, 5 << 32, 1 << 63, 0x0123456789abcdef, math.MaxUint64}

func allFlags(do func(last, node bool)) {
	for flags := range 4 {
		do(flags&1 != 0, flags&2 != 0)
	}
}

func begun(h chain, count uint64, last, node bool) state {
	var v state
	copy(v[:8], h[:])
	copy(v[8:], wantIV[:])
	v[12] ^= uint32(count % (1 << 32))
	v[13] ^= uint32(count / (1 << 32))
	if last {
		v[14] ^= 0xffffffff
	}
	if node {
		v[15] ^= 0xffffffff
	}
	return v
}

func TestBegin(t *testing.T) { // P4.3
	r := rand.New(rand.NewSource(54))
	for _, count := range someCounts {
		allFlags(func(last, node bool) {
			h := someChain(r)
			if v := Begin(h, count, last, node); v != begun(h, count, last, node) {
				t.Errorf("Begin(%x, %x, %v, %v) = %x", h, count, last, node, v)
			}
		})
	}
}

func TestBeginOfNoughts(t *testing.T) { // P4.3
	want := state{
		8: 0x6a09e667, 9: 0xbb67ae85, 10: 0x3c6ef372, 11: 0xa54ff53a,
		12: 0x510e527e, 13: 0x9b05688e, 14: 0xe07c2654, 15: 0xa41f32e6,
	}
	if v := Begin(chain{}, 2<<32|1, true, true); v != want {
		t.Errorf("Begin: %x", v)
	}
}

func TestEnd(t *testing.T) { // P4.3
	r := rand.New(rand.NewSource(55))
	for range 50 {
		h, v := someChain(r), someWords(r)
		var want chain
		for i := range want {
			want[i] = h[i] ^ v[i] ^ v[i+8]
		}
		if got := End(h, v); got != want {
			t.Errorf("End(%x, %x) = %x", h, v, got)
		}
	}
}

// tenRounds is F, as P4.3 tells it.
func tenRounds(h chain, m state, count uint64, last, node bool) chain {
	v := begun(h, count, last, node)
	for round := range 10 {
		v = rounded(v, m, round)
	}
	for i := range h {
		h[i] = h[i] ^ v[i] ^ v[i+8]
	}
	return h
}

func TestFIsTenRounds(t *testing.T) { // P4.3
	r := rand.New(rand.NewSource(56))
	for _, count := range someCounts {
		allFlags(func(last, node bool) {
			h, m := someChain(r), someWords(r)
			if got := F(h, m, count, last, node); got != tenRounds(h, m, count, last, node) {
				t.Fatalf("F(%x, %x, %x, %v, %v) = %x", h, m, count, last, node, got)
			}
		})
	}
}

func TestFOfABC(t *testing.T) { // P4.3: the chapter's example
	h, m := abc(t)
	const want = "508c5e8c327c14e2e1a72ba34eeb452f37458b209ed63a294d999b4c86675982"
	if got := hex.EncodeToString(Bytes(F(h, m, 3, true, false))); got != want {
		t.Errorf("F of abc: %s", got)
	}
}

// TestFWithEachFlag: answers that were worked out apart from this program, with both words of the count.
func TestFWithEachFlag(t *testing.T) { // P4.3
	var b [64]byte
	for i := range b {
		b[i] = byte(7*i + 1)
	}
	m, _ := Words(b[:])
	cases := []struct {
		last, node bool
		want       string
	}{
		{false, false, "cc36ee8c28bced8380ea661295af24a3892d32377b83730e6334e841753afe11"},
		{false, true, "7f14a5a5b8eee594f5fecb69fc2d7140eca5d0e4c1e2a2a6a9181ec1ad0e8651"},
		{true, false, "01cdd42fd205a391c5d898d31b3c382fabe2fb1df7486eca9a483653281d14fc"},
		{true, true, "aec1a8da3e7581d98b04475821b473cb2dcc941c6dde6f3445c7e381edcbd81f"},
	}
	for _, c := range cases {
		h := F(IV(), m, 0x0123456789abcdef, c.last, c.node)
		if got := hex.EncodeToString(Bytes(h)); got != c.want {
			t.Errorf("F with last %v, node %v: %s", c.last, c.node, got)
		}
	}
}

// TestFHangsOnAll changes one bit, or one flag, at a time.
func TestFHangsOnAll(t *testing.T) { // P4.6
	r := rand.New(rand.NewSource(57))
	h, m, count := someChain(r), someWords(r), r.Uint64()
	seen := map[chain]string{F(h, m, count, false, false): "as it was"}
	note := func(what string, got chain) {
		if was, there := seen[got]; there {
			t.Errorf("F with another %s is F %s", what, was)
		}
		seen[got] = "with another " + what
	}
	for i := range 32 * len(h) {
		other := h
		other[i/32] ^= 1 << (i % 32)
		note("chain", F(other, m, count, false, false))
	}
	for i := range 32 * len(m) {
		other := m
		other[i/32] ^= 1 << (i % 32)
		note("block", F(h, other, count, false, false))
	}
	for i := range 64 {
		note("count", F(h, m, count^1<<i, false, false))
	}
	note("last", F(h, m, count, true, false))
	note("node", F(h, m, count, false, true))
	note("last and node", F(h, m, count, true, true))
}

func TestStates(t *testing.T) { // P4.3
	r := rand.New(rand.NewSource(58))
	for _, count := range someCounts {
		allFlags(func(last, node bool) {
			h, m := someChain(r), someWords(r)
			list := States(h, m, count, last, node)
			if len(list) != 11 {
				t.Fatalf("States tells %d", len(list))
			}
			want := begun(h, count, last, node)
			for i, v := range list {
				if i > 0 {
					want = rounded(want, m, i-1)
				}
				if v != want {
					t.Errorf("States(%x, %x, %x, %v, %v)[%d] = %x", h, m, count, last, node, i, v)
				}
			}
			if End(h, list[10]) != F(h, m, count, last, node) {
				t.Error("the end of the last state isn't F")
			}
		})
	}
}

func TestStatesIsNewMemory(t *testing.T) { // P4
	h, m := abc(t)
	first, second := States(h, m, 3, true, false), States(h, m, 3, true, false)
	whole := first[:cap(first)]
	for i := range whole {
		whole[i] = state{}
	}
	v := begun(h, 3, true, false)
	for i := range second {
		if second[i] != v {
			t.Fatal("two answers share memory")
		}
		v = rounded(v, m, i%10)
	}
}

func TestOpenOfBeginnings(t *testing.T) { // P4.4
	r := rand.New(rand.NewSource(59))
	for _, count := range someCounts {
		allFlags(func(last, node bool) {
			for _, m := range edgeStates(r) {
				h := someChain(r)
				list := States(h, m, count, last, node)
				gotH, gotCount, gotLast, gotNode, is := Open(list[10], m)
				if gotH != h || gotCount != count || gotLast != last || gotNode != node || !is {
					t.Errorf("Open: %x %x %v %v %v, not %x %x %v %v", gotH, gotCount, gotLast, gotNode, is, h, count, last, node)
				}
			}
		})
	}
}

func TestOpenExamples(t *testing.T) { // P4.4: the chapter's examples
	if h, count, last, node, is := Open(state{}, state{}); h != (chain{}) || count != 0 || last || node || is {
		t.Errorf("Open of noughts: %x %d %v %v %v", h, count, last, node, is)
	}
	h, m := abc(t)
	if got, count, last, node, is := Open(States(h, m, 7, true, false)[10], m); got != h || count != 7 || !last || node || !is {
		t.Errorf("Open: %x %d %v %v %v", got, count, last, node, is)
	}
}

// mayBegin tells whether v is a beginning: only h, the count, and the flags as a whole are free.
func mayBegin(v state) bool {
	for i := range 4 {
		if v[8+i] != wantIV[i] {
			return false
		}
	}
	last, node := v[14]^wantIV[6], v[15]^wantIV[7]
	return (last == 0 || last == 0xffffffff) && (node == 0 || node == 0xffffffff)
}

func TestOpenOfNoBeginnings(t *testing.T) { // P4.4, P2
	r := rand.New(rand.NewSource(60))
	taken := 0
	allFlags(func(last, node bool) {
		// Each bit of a beginning, changed by itself, and then all of a word's.
		for i := range 16*32 + 16 {
			v, m := begun(someChain(r), r.Uint64(), last, node), someWords(r)
			if i < 16*32 {
				v[i/32] ^= 1 << (i % 32)
			} else {
				v[i-16*32] ^= 0xffffffff
			}
			w := v
			for round := range 10 {
				w = rounded(w, m, round)
			}
			h, count, gotLast, gotNode, is := Open(w, m)
			if is != mayBegin(v) {
				t.Errorf("Open of what came of %x: %v", v, is)
			}
			if is {
				taken++
				if begun(h, count, gotLast, gotNode) != v {
					t.Errorf("Open of what came of %x: %x %x %v %v", v, h, count, gotLast, gotNode)
				}
			} else if h != (chain{}) || count != 0 || gotLast || gotNode {
				t.Errorf("Open tells %x %x %v %v beside false", h, count, gotLast, gotNode)
			}
		}
	})
	if want := 4 * (10*32 + 12); taken != want {
		t.Errorf("%d were beginnings, not %d", taken, want)
	}
	// A state of another count of rounds, and one with another block, came of no beginning.
	h, m := abc(t)
	list := States(h, m, 3, true, false)
	for i := range 10 {
		if _, _, _, _, is := Open(list[i], m); is {
			t.Errorf("Open of the state behind %d rounds", i)
		}
	}
	if _, _, _, _, is := Open(list[10], state{}); is {
		t.Error("Open with another block")
	}
}

// chained is Chain, as P4.5 tells it.
func chained(h chain, data []byte, count uint64) (chain, uint64) {
	for len(data) > 0 {
		var m state
		for i := range m {
			m[i] = binary.LittleEndian.Uint32(data[4*i:])
		}
		count += 64
		h = tenRounds(h, m, count, false, false)
		data = data[64:]
	}
	return h, count
}

func TestChain(t *testing.T) { // P4.5
	r := rand.New(rand.NewSource(61))
	counts := append([]uint64{1<<64 - 63, 1<<64 - 64, 1<<64 - 65, 1<<64 - 128, 1<<64 - 200, 1<<32 - 64, 1<<32 - 1}, someCounts...)
	for _, count := range counts {
		for blocks := range 6 {
			h := someChain(r)
			data, still := roomy(someBytes(r, 64*blocks))
			got, behind, e := Chain(h, data, count)
			wantH, wantCount := chained(h, data, count)
			if got != wantH || behind != wantCount || e != api.OK {
				t.Errorf("Chain of %d blocks from %x on: %x %x %d", blocks, count, got, behind, e)
			}
			if !still() {
				t.Error("Chain changed its argument, or the room behind it")
			}
		}
	}
}

func TestChainOfNone(t *testing.T) { // P4.5, P3
	for _, none := range [][]byte{nil, {}} {
		if h, count, e := Chain(wantIV, none, 77); h != wantIV || count != 77 || e != api.OK {
			t.Errorf("Chain of no bytes: %x %d %d", h, count, e)
		}
	}
}

func TestChainRefuses(t *testing.T) { // P4.5, P2
	for n := range 300 {
		data, still := roomy(bytes.Repeat([]byte{7}, n))
		h, count, e := Chain(wantIV, data, 9)
		if n%64 == 0 && (count != uint64(9+n) || e != api.OK) || n%64 != 0 && (h != (chain{}) || count != 0 || e != api.ErrArg) {
			t.Errorf("Chain of %d bytes: %x %d %d", n, h, count, e)
		}
		if !still() {
			t.Errorf("Chain changed its %d bytes, or the room behind them", n)
		}
	}
}

func TestChainInTwoParts(t *testing.T) { // P4.6
	r := rand.New(rand.NewSource(62))
	for _, count := range []uint64{0, 5, 1<<32 - 100, 1<<64 - 150} {
		h, data := someChain(r), someBytes(r, 64*6)
		wantH, wantCount, _ := Chain(h, data, count)
		for at := 0; at <= len(data); at += 64 {
			first, between, e := Chain(h, data[:at], count)
			if e != api.OK {
				t.Fatalf("Chain: %d", e)
			}
			second, behind, e := Chain(first, data[at:], between)
			if second != wantH || behind != wantCount || e != api.OK {
				t.Errorf("Chain in two parts at %d: %x %x %d", at, second, behind, e)
			}
		}
	}
}

// digest puts a message through as BLAKE2s does: Chain up to the last block, and F of that.
func digest(t *testing.T, block, data []byte, node bool) string {
	t.Helper()
	h, e := Start(block)
	if e != api.OK {
		t.Fatalf("Start: %d", e)
	}
	whole := max(0, (len(data)-1)/64*64)
	h, count, e := Chain(h, data[:whole], 0)
	if e != api.OK {
		t.Fatalf("Chain: %d", e)
	}
	rest := data[whole:]
	m, e := Words(append(bytes.Clone(rest), make([]byte, 64-len(rest))...))
	if e != api.OK {
		t.Fatalf("Words: %d", e)
	}
	return hex.EncodeToString(Bytes(F(h, m, count+uint64(len(rest)), true, node)))
}

func pattern(n int) []byte {
	b := make([]byte, n)
	for i := range b {
		b[i] = byte((i*i + 3*i) % 251)
	}
	return b
}

// TestManyBlocks: digests of BLAKE2s-256 that another program told.
func TestManyBlocks(t *testing.T) { // P4.3, P4.5
	block := append([]byte{0x20, 0, 1, 1}, make([]byte, 28)...)
	for n, want := range map[int]string{
		0:    "69217a3079908094e11121d042354a7c1f55b6482ca1a51e1b250dfd1ed0eef9",
		1:    "e34d74dbaf4ff4c6abd871cc220451d2ea2648846c7757fbaac82fe51ad64bea",
		63:   "b1042581f6962db94abb34b4686dee95cf3b63ecd6eb2383a2f88ffa7d22f6d3",
		64:   "ea07185b540144402579798f64fd3eee424098465377d33e07a6831e5c6054ce",
		65:   "b4168521aa7ac48d575356f3a42c689f03de1d554d78a398a796f3cb1bbe2462",
		1000: "0d046c73c4e63cb85d895ce2c8c6794141a1854d6e423fc995971325c430b5a5",
	} {
		if got := digest(t, block, pattern(n), false); got != want {
			t.Errorf("%d bytes: %s", n, got)
		}
	}
}

// TestNodesOfATree: the same with all of a block's fields, and with the last-node flag.
func TestNodesOfATree(t *testing.T) { // P4.1, P4.3
	block := []byte{32, 0, 2, 3, 5, 0, 0, 0, 6, 0, 0, 0, 0, 0, 1, 7}
	block = append(block, "salt\x00\x00\x00\x00personal"...)
	cases := []struct {
		n    int
		node bool
		want string
	}{
		{0, false, "04fd6f644d96cd409fd314672d081dfc1ad820778174953d86fa6b1fa59a2c18"},
		{0, true, "659aaf31b4e3f5a571230a769e485be2b7e7884ffa6895d46ff2f858c2bf19fc"},
		{300, false, "cadef5c494c72d1e5ae302d0c687616a69301d14e117581eaecc1b66012f00dc"},
		{300, true, "e374a982c10ad2e3e05fc91d63213d3a0030490a0a9ea615afae40fc59af9337"},
	}
	for _, c := range cases {
		if got := digest(t, block, pattern(c.n), c.node); got != c.want {
			t.Errorf("%d bytes, last node %v: %s", c.n, c.node, got)
		}
	}
}

// TestAnswersHangOnArguments asks twice, with other calls between.
func TestAnswersHangOnArguments(t *testing.T) { // P5
	r := rand.New(rand.NewSource(63))
	for round := range 10 {
		h, v, m, count := someChain(r), someWords(r), someWords(r), r.Uint64()
		f := F(h, m, count, true, true)
		there, _ := Round(v, m, round)
		back, _ := Unround(v, m, round)
		words := IV()
		words[0] = 0
		States(someChain(r), someWords(r), 1, false, true)
		Open(v, m)
		Chain(h, someBytes(r, 128), 1)
		Chain(h, someBytes(r, 127), 1)
		Round(v, m, 10)
		G(v, 0, 0, 0, 0, 1, 1)
		thereAgain, _ := Round(v, m, round)
		backAgain, _ := Unround(v, m, round)
		if IV() != wantIV || F(h, m, count, true, true) != f || thereAgain != there || backAgain != back {
			t.Errorf("round %d: another answer to the same arguments", round)
		}
	}
}
