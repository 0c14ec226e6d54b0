package node

import (
	"bytes"
	"encoding/binary"
	"math"
	"math/rand"
	"testing"

	"quern/api"
	"quern/mixb"
	"quern/mixs"
	"quern/param"
)

// places are where the things of a saved hasher end.
type places struct {
	block, key, state, count, number int
}

func placesOf(s setup) places {
	state := stateOf(s.kind)
	p := places{block: 4 + state}
	p.key = p.block + len(s.key)
	p.state = p.key + state
	p.count = p.state + state/4
	p.number = p.count + 1
	return p
}

func wantLoaded(t *testing.T, b []byte) *Node {
	t.Helper()
	n, e := Load(b)
	if e != api.OK || n == nil {
		t.Fatalf("Load(%x): %d", b, e)
	}
	if got := n.Save(); !bytes.Equal(got, b) {
		t.Fatalf("Save of Load is %x, not %x", got, b)
	}
	return n
}

func wantNotLoaded(t *testing.T, b []byte, want api.Errno) {
	t.Helper()
	if n, e := Load(b); n != nil || e != want {
		t.Fatalf("Load(%x): %v %d, want %d", b, n, e, want)
	}
}

func TestSavedLengths(t *testing.T) { // ND4
	for _, s := range setups() {
		b := blockOf(s.kind)
		for length, held := range map[int]int{0: 0, 1: 1, b - 1: b - 1, b: b, b + 1: 1, 2*b - 1: b - 1, 2 * b: b, 2*b + 1: 1} {
			if length == 0 && len(s.key) > 0 {
				held = b
			}
			n := made(t, s)
			wantOK(t, n.Write(pattern(length)))
			at := placesOf(s)
			got := n.Save()
			if len(got) != at.number+held || int(got[at.count]) != held {
				t.Errorf("%s, %d bytes: Save has %d bytes, %d held back", s.name, length, len(got), got[at.count])
			}
		}
	}
}

func TestThereAndBack(t *testing.T) { // ND4, ND6
	for _, s := range setups() {
		for _, last := range []bool{false, true} {
			s.last = last
			for length := range 3*blockOf(s.kind) + 2 {
				n, data := made(t, s), pattern(length)
				wantOK(t, n.Write(data))
				m := wantLoaded(t, n.Save())
				wantAll(t, m, s, data)
			}
		}
	}
}

func TestWhatIsLoadedGoesOn(t *testing.T) { // ND4, ND6
	for _, s := range setups() {
		for _, length := range edges(s.kind) {
			n := made(t, s)
			wantOK(t, n.Write(pattern(length)))
			b := n.Save()
			for _, more := range edges(s.kind) {
				m := wantLoaded(t, b)
				wantOK(t, m.Write(pattern(more)))
				wantAll(t, m, s, append(pattern(length), pattern(more)...))
				other := s
				other.last = !s.last
				wantOK(t, m.Last(other.last))
				wantAll(t, m, other, append(pattern(length), pattern(more)...))
				other.last = false
				wantOK(t, m.Reset())
				wantAll(t, m, other, nil)
				wantOK(t, m.Write([]byte("abc")))
				wantAll(t, m, other, []byte("abc"))
				wantAll(t, n, s, pattern(length))
			}
		}
	}
}

func TestLoadKeepsNothing(t *testing.T) { // P4
	for _, s := range setups() {
		for _, length := range edges(s.kind) {
			b, still := roomy(saved(t, s, pattern(length)))
			n, e := Load(b)
			wantOK(t, e)
			if !still() {
				t.Errorf("%s: Load changed its argument, or the room behind it", s.name)
			}
			spoil(b)
			wantAll(t, n, s, pattern(length))
			wantOK(t, n.Reset())
			s := s
			s.last = false
			wantAll(t, n, s, nil)
		}
	}
}

func TestCutShort(t *testing.T) { // ND4
	wantNotLoaded(t, nil, api.ErrShort)
	wantNotLoaded(t, []byte{}, api.ErrShort)
	for _, s := range setups() {
		for _, length := range edges(s.kind) {
			b := saved(t, s, pattern(length))
			for cut := range b {
				wantNotLoaded(t, b[:cut], api.ErrShort)
			}
		}
	}
}

func TestBytesBehind(t *testing.T) { // ND4
	for _, s := range setups() {
		for _, length := range edges(s.kind) {
			b := saved(t, s, pattern(length))
			wantNotLoaded(t, append(bytes.Clone(b), 0), api.ErrMore)
			wantNotLoaded(t, append(bytes.Clone(b), b...), api.ErrMore)
		}
	}
}

// fault is bytes that are no hasher's, and where the thing ends that is at fault.
type fault struct {
	name string
	b    []byte
	end  int
}

// faultsOf are the faults that ND4 lists, in its order, of a hasher behind so many bytes.
func faultsOf(t *testing.T, s setup, length int) []fault {
	good := saved(t, s, pattern(length))
	at, state, size := placesOf(s), stateOf(s.kind), blockOf(s.kind)
	var list []fault
	with := func(name string, end, place int, values ...byte) {
		for _, v := range values {
			b := bytes.Clone(good)
			b[place] = v
			list = append(list, fault{name, b, end})
		}
	}
	with("the mark", 1, 0, 0, 'n', 'M', 'O', 0xff)
	with("the kind", 2, 1, 0, 3, 4, '1', 0xff)
	with("the flag", 3, 2, 2, 3, 0x80, 0xff)
	with("the key's length", 4, 3, byte(state+1), byte(state+2), 128, 0xff)
	for _, block := range badBlocks(t, s) {
		if len(block) == state {
			b := bytes.Clone(good)
			copy(b[4:], block)
			list = append(list, fault{"the block", b, at.block})
		}
	}
	for n := 1; n <= state; n++ {
		if n != s.p.Key {
			with("a key's length that isn't told", at.block, 3, byte(n))
		}
	}
	low := good[at.state]
	with("the count", at.count, at.state, low+1, low+2, low+byte(size/2), low-1)
	with("the number held back", at.number, at.count, byte(size+1), byte(size+2), 0xff)
	gone := length > 0 && len(s.message(pattern(length))) > size
	if gone {
		with("none held back", at.number, at.count, 0)
	}
	if !gone && len(s.key) > 0 {
		with("not a key's block held back", at.number, at.count, 0, 1, byte(size-1))
		for i := range size {
			with("not the key's block held back", len(good), at.number+i, good[at.number+i]+1)
		}
	}
	if !gone {
		for i := at.key; i < at.state; i++ {
			with("another state", len(good), i, good[i]^1, good[i]^0x80)
		}
	}
	return list
}

func TestEachFault(t *testing.T) { // ND4
	for _, s := range setups() {
		for _, length := range edges(s.kind) {
			for _, f := range faultsOf(t, s, length) {
				if n, e := Load(f.b); n != nil || e != api.ErrForm {
					t.Fatalf("%s, %d bytes, %s: %v %d", s.name, length, f.name, n, e)
				}
				// What isn't of its form goes ahead of bytes behind.
				wantNotLoaded(t, append(bytes.Clone(f.b), 7), api.ErrForm)
			}
		}
	}
}

// TestFaultsFromTheLeft cuts bytes with a fault short: as soon as the thing at fault is whole, that is what is told.
func TestFaultsFromTheLeft(t *testing.T) { // ND4, P2
	for _, s := range setups() {
		b := blockOf(s.kind)
		for _, length := range []int{0, 1, b, b + 1} {
			for _, f := range faultsOf(t, s, length) {
				for cut := range f.b {
					want := api.ErrForm
					if cut < f.end {
						want = api.ErrShort
					}
					if n, e := Load(f.b[:cut]); n != nil || e != want {
						t.Fatalf("%s, %d bytes, %s, cut at %d: %v %d, want %d", s.name, length, f.name, cut, n, e, want)
					}
				}
			}
		}
	}
}

// TestWithoutTheKey: a key's length of 0 stands with each block.
func TestWithoutTheKey(t *testing.T) { // ND4
	for _, s := range setups() {
		s.key = nil
		for _, length := range edges(s.kind) {
			n := wantLoaded(t, saved(t, s, pattern(length)))
			wantAll(t, n, s, pattern(length))
		}
	}
}

// TestAnyKeyAndState: behind a block that has gone in, nobody asks whether they belong together.
func TestAnyKeyAndState(t *testing.T) { // ND4
	r := rand.New(rand.NewSource(81))
	for _, s := range setups() {
		at, size := placesOf(s), blockOf(s.kind)
		for range 50 {
			length := 1 + r.Intn(size)
			b := saved(t, s, make([]byte, size+length))
			copy(b[at.block:at.state], someBytes(r, at.state-at.block))
			copy(b[at.number:], someBytes(r, len(b)-at.number))
			n := wantLoaded(t, b)
			if n.Written() != uint64(size+length) {
				t.Errorf("%s: Written %d, want %d", s.name, n.Written(), size+length)
			}
			wantOK(t, n.Reset())
			other := s
			other.last, other.key = false, b[at.block:at.key]
			wantAll(t, n, other, nil)
		}
	}
}

// loadable tells bytes of a hasher without a key, of any state, with this count and bytes held back.
func loadable(t *testing.T, s setup, state []byte, lo, hi uint64, held []byte) []byte {
	t.Helper()
	b := append([]byte{'N', byte(s.kind), 0, 0}, encoded(t, s)...)
	b = append(b, state...)
	b = binary.LittleEndian.AppendUint64(b, lo)
	if s.kind == api.Big {
		b = binary.LittleEndian.AppendUint64(b, hi)
	}
	b = append(b, byte(len(held)))
	return append(b, held...)
}

func TestGreatCountsOfBig(t *testing.T) { // ND2, ND4
	s := setup{"Big", api.Big, plainBig(), nil, false}
	state, block := rising(64), pattern(128)
	var h [8]uint64
	for i := range h {
		h[i] = binary.LittleEndian.Uint64(state[8*i:])
	}
	m, _ := mixb.Words(block)
	for _, c := range []struct{ count, behind api.Count }{
		{api.Count{Lo: 128}, api.Count{Lo: 256}},
		{api.Count{Lo: math.MaxUint64 - 127}, api.Count{Hi: 1}},
		{api.Count{Lo: math.MaxUint64 - 127, Hi: 6}, api.Count{Hi: 7}},
		{api.Count{Hi: 1}, api.Count{Lo: 128, Hi: 1}},
		{api.Count{Hi: math.MaxUint64}, api.Count{Lo: 128, Hi: math.MaxUint64}},
		{api.Count{Lo: math.MaxUint64 - 127, Hi: math.MaxUint64}, api.Count{}},
	} {
		n := wantLoaded(t, loadable(t, s, state, c.count.Lo, c.count.Hi, block))
		if got := n.Written(); got != c.behind.Lo {
			t.Errorf("behind %v: Written %d", c.count, got)
		}
		if got, want := n.Sum(), mixb.Bytes(mixb.F(h, m, c.behind, true, false)); !bytes.Equal(got, want) {
			t.Errorf("behind %v: Sum %x, want %x", c.count, got, want)
		}
		wantOK(t, n.Write([]byte{9}))
		next := mixb.Bytes(mixb.F(h, m, c.behind, false, false))
		if got, want := n.Save(), loadable(t, s, next, c.behind.Lo, c.behind.Hi, []byte{9}); !bytes.Equal(got, want) {
			t.Errorf("behind %v and a byte: Save %x, want %x", c.count, got, want)
		}
		if got := n.Written(); got != c.behind.Lo+1 {
			t.Errorf("behind %v and a byte: Written %d", c.count, got)
		}
	}
}

func TestGreatCountsOfSmall(t *testing.T) { // ND2, ND4
	s := setup{"Small", api.Small, plainSmall(), nil, false}
	state, block := rising(32), pattern(64)
	var h [8]uint32
	for i := range h {
		h[i] = binary.LittleEndian.Uint32(state[4*i:])
	}
	m, _ := mixs.Words(block)
	for _, count := range []uint64{64, 1<<32 - 64, 1 << 32, 1 << 63, math.MaxUint64 - 127, math.MaxUint64 - 63} {
		n := wantLoaded(t, loadable(t, s, state, count, 0, block))
		if got := n.Written(); got != count+64 {
			t.Errorf("behind %d: Written %d", count, got)
		}
		if got, want := n.Sum(), mixs.Bytes(mixs.F(h, m, count+64, true, false)); !bytes.Equal(got, want) {
			t.Errorf("behind %d: Sum %x, want %x", count, got, want)
		}
		wantOK(t, n.Write([]byte{9}))
		next := mixs.Bytes(mixs.F(h, m, count+64, false, false))
		if got, want := n.Save(), loadable(t, s, next, count+64, 0, []byte{9}); !bytes.Equal(got, want) {
			t.Errorf("behind %d and a byte: Save %x, want %x", count, got, want)
		}
	}
}

// TestUpperHalfCounts: a count whose lower half alone is 0 is above 0.
func TestUpperHalfCounts(t *testing.T) { // ND4
	s := setup{"Big", api.Big, plainBig(), nil, false}
	wantNotLoaded(t, loadable(t, s, rising(64), 0, 1, nil), api.ErrForm)
	wantLoaded(t, loadable(t, s, rising(64), 0, 1, []byte{1}))
	wantNotLoaded(t, loadable(t, s, rising(64), 1, 1, []byte{1}), api.ErrForm)
	wantNotLoaded(t, loadable(t, s, rising(64), 0, 0, []byte{1}), api.ErrForm)
}

// loadFault tells the error of ND4, sentence by sentence.
func loadFault(b []byte) api.Errno {
	left, short := b, false
	take := func(n int) []byte {
		if short = short || len(left) < n; short {
			return make([]byte, n)
		}
		piece := left[:n]
		left = left[n:]
		return piece
	}
	for _, values := range []string{"N", "\x01\x02", "\x00\x01"} {
		c := take(1)
		if short {
			return api.ErrShort
		}
		if !bytes.Contains([]byte(values), c) {
			return api.ErrForm
		}
	}
	k := api.Kind(b[1])
	size, state := blockOf(k), stateOf(k)
	c := take(1)
	if short {
		return api.ErrShort
	}
	keyBytes := int(c[0])
	if keyBytes > state {
		return api.ErrForm
	}
	block := take(state)
	if short {
		return api.ErrShort
	}
	_, plain := param.Decode(k, block, false)
	_, extended := param.Decode(k, block, true)
	if plain != api.OK && extended != api.OK || keyBytes != 0 && keyBytes != int(block[1]) {
		return api.ErrForm
	}
	key, h, count := take(keyBytes), take(state), take(size/8)
	if short {
		return api.ErrShort
	}
	if int(count[0])%size != 0 {
		return api.ErrForm
	}
	c = take(1)
	if short {
		return api.ErrShort
	}
	none := bytes.Equal(count, make([]byte, len(count)))
	if int(c[0]) > size || c[0] == 0 && !none || none && keyBytes > 0 && int(c[0]) != size {
		return api.ErrForm
	}
	held := take(int(c[0]))
	if short {
		return api.ErrShort
	}
	begun := reckoned{kind: k}
	begun.big, _ = mixb.Start(block)
	begun.small, _ = mixs.Start(block)
	if none && !bytes.Equal(h, begun.bytes()) || none && keyBytes > 0 && !bytes.Equal(held, (setup{kind: k, key: key}).message(nil)) {
		return api.ErrForm
	}
	if len(left) > 0 {
		return api.ErrMore
	}
	return api.OK
}

// TestLoadOfSpoiltBytes changes, cuts and lengthens bytes by chance, and holds Load against the chapter's sentences.
func TestLoadOfSpoiltBytes(t *testing.T) { // ND4, P1
	r := rand.New(rand.NewSource(82))
	seen := map[api.Errno]int{}
	for _, s := range setups() {
		for range 3000 {
			b := saved(t, s, pattern(r.Intn(2*blockOf(s.kind)+2)))
			for range r.Intn(3) {
				place := r.Intn(len(b))
				if r.Intn(2) == 0 {
					place = r.Intn(min(24, len(b)))
				}
				b[place] = []byte{0, 1, 2, byte(s.p.Key), byte(stateOf(s.kind)), byte(blockOf(s.kind)), b[place] + 1, byte(r.Intn(256))}[r.Intn(8)]
			}
			switch r.Intn(5) {
			case 0:
				b = b[:r.Intn(len(b)+1)]
			case 1:
				b = append(b, someBytes(r, r.Intn(200))...)
			}
			want := loadFault(b)
			seen[want]++
			n, e := Load(b)
			if e != want || (n != nil) != (want == api.OK) {
				t.Fatalf("Load(%x): %d, want %d", b, e, want)
			}
			if n == nil {
				continue
			}
			if !bytes.Equal(n.Save(), b) {
				t.Fatalf("Save of Load of %x: %x", b, n.Save())
			}
			n.Write(pattern(300))
			n.Sum()
		}
	}
	for _, e := range []api.Errno{api.OK, api.ErrShort, api.ErrForm, api.ErrMore} {
		if seen[e] < 100 {
			t.Errorf("error %d came up %d times", e, seen[e])
		}
	}
}

func TestLoadOfAnyBytes(t *testing.T) { // P1
	r := rand.New(rand.NewSource(83))
	for range 3000 {
		b := someBytes(r, r.Intn(400))
		copy(b, []byte{'N', byte(1 + r.Intn(2)), byte(r.Intn(2)), byte(r.Intn(40))}[:min(4, len(b))])
		if _, e := Load(b); e != loadFault(b) {
			t.Fatalf("Load(%x): %d, want %d", b, e, loadFault(b))
		}
	}
}
