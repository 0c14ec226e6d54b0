package node

import (
	"bytes"
	"encoding/hex"
	"math"
	"math/rand"
	"testing"

	"quern/api"
)

func plainBig() api.Params { return api.Params{Digest: 64, Fanout: 1, Depth: 1} }

func plainSmall() api.Params { return api.Params{Digest: 32, Fanout: 1, Depth: 1} }

const (
	bigABC   = "ba80a53f981c4d0d6a2797b69f12f6e94c212f14685ac4b74b12bb6fdbffa2d17d87c5392aab792dc252d5de4533cc9518d38aa8dbf1925ab92386edd4009923"
	smallABC = "508c5e8c327c14e2e1a72ba34eeb452f37458b209ed63a294d999b4c86675982"
)

func TestExamples(t *testing.T) { // ND1, ND2, ND4: the chapter's examples
	n, e := New(api.Big, plainBig(), nil)
	wantOK(t, e)
	if b := n.Save(); len(b) != 4+64+64+16+1 {
		t.Errorf("Save behind nothing: %d bytes", len(b))
	}
	wantOK(t, n.Write([]byte("abc")))
	if got := hex.EncodeToString(n.Sum()); got != bigABC {
		t.Errorf("Big: %s", got)
	}
	n, e = New(api.Small, plainSmall(), nil)
	wantOK(t, e)
	wantOK(t, n.Write([]byte("abc")))
	if got := hex.EncodeToString(n.Sum()); got != smallABC {
		t.Errorf("Small: %s", got)
	}
}

// TestToldDigests: digests that another program told, of messages at once and byte by byte.
func TestToldDigests(t *testing.T) { // ND1, ND2, ND3
	byName := map[string]setup{}
	for _, s := range setups() {
		byName[s.name] = s
	}
	for _, c := range toldDigests {
		s, data := byName[c.setup], pattern(c.length)
		n := made(t, s)
		wantOK(t, n.Write(data))
		if got := hex.EncodeToString(n.Sum()); got != c.want {
			t.Errorf("%s, %d bytes: %s", c.setup, c.length, got)
		}
		n = made(t, s)
		for i := range data {
			wantOK(t, n.Write(data[i:i+1]))
		}
		if got := hex.EncodeToString(n.Sum()); got != c.want {
			t.Errorf("%s, %d bytes one by one: %s", c.setup, c.length, got)
		}
		if got, e := Hash(s.kind, s.p, s.key, s.last, s.p.Digest, data); hex.EncodeToString(got) != c.want || e != api.OK {
			t.Errorf("%s, %d bytes by Hash: %x %d", c.setup, c.length, got, e)
		}
		call := api.Call{Kind: s.kind, Block: encoded(t, s), Key: s.key, Last: s.last, Out: s.p.Digest, Data: data}
		if got, e := Call(call); hex.EncodeToString(got) != c.want || e != api.OK {
			t.Errorf("%s, %d bytes by Call: %x %d", c.setup, c.length, got, e)
		}
	}
}

// badParams are parameters that may not be, each with its error.
func badParams(k api.Kind) []struct {
	p    api.Params
	want api.Errno
} {
	most, offset := stateOf(k), uint64(1<<48)
	base := api.Params{Digest: most, Fanout: 1, Depth: 1}
	if k == api.Big {
		offset, base.Xof = 1<<32, 1
	}
	with := func(change func(p *api.Params)) api.Params {
		p := base
		change(&p)
		return p
	}
	return []struct {
		p    api.Params
		want api.Errno
	}{
		{api.Params{}, api.ErrDigest},
		{with(func(p *api.Params) { p.Digest = most + 1 }), api.ErrDigest},
		{with(func(p *api.Params) { p.Digest = math.MinInt }), api.ErrDigest},
		{with(func(p *api.Params) { p.Key = -1 }), api.ErrKey},
		{with(func(p *api.Params) { p.Key = most + 1 }), api.ErrKey},
		{with(func(p *api.Params) { p.Fanout = 256 }), api.ErrFanout},
		{with(func(p *api.Params) { p.Xof, p.Depth = 0, 0 }), api.ErrDepth},
		{with(func(p *api.Params) { p.Depth = 256 }), api.ErrDepth},
		{with(func(p *api.Params) { p.Offset = offset }), api.ErrOffset},
		{with(func(p *api.Params) { p.NodeDepth = 256 }), api.ErrRow},
		{with(func(p *api.Params) { p.Inner = most + 1 }), api.ErrInner},
		{with(func(p *api.Params) { p.Salt = make([]byte, most/4+1) }), api.ErrSalt},
		{with(func(p *api.Params) { p.Personal = make([]byte, most/4+1) }), api.ErrPersonal},
	}
}

func wantNoNew(t *testing.T, k api.Kind, p api.Params, key []byte, want api.Errno) {
	t.Helper()
	if n, e := New(k, p, key); n != nil || e != want {
		t.Errorf("New(%d, %v, %d bytes): %v %d, want %d", k, p, len(key), n, e, want)
	}
	if b, e := Hash(k, p, key, false, 1, nil); b != nil || e != want {
		t.Errorf("Hash(%d, %v, %d bytes): %x %d, want %d", k, p, len(key), b, e, want)
	}
	// What New refuses goes ahead of what Hash refuses.
	if b, e := Hash(k, p, key, false, 0, nil); b != nil || e != want {
		t.Errorf("Hash(%d, %v, %d bytes) of no bytes: %x %d, want %d", k, p, len(key), b, e, want)
	}
}

func TestNewRefusesParams(t *testing.T) { // ND1, ND3
	for _, k := range []api.Kind{0, 3, -1, math.MinInt, math.MaxInt} {
		wantNoNew(t, k, plainSmall(), nil, api.ErrArg)
		wantNoNew(t, k, api.Params{}, []byte("k"), api.ErrArg)
	}
	for _, k := range []api.Kind{api.Big, api.Small} {
		for _, c := range badParams(k) {
			wantNoNew(t, k, c.p, nil, c.want)
			// The parameters' error goes ahead of the key's.
			wantNoNew(t, k, c.p, []byte("k"), c.want)
		}
	}
	wantNoNew(t, api.Small, api.Params{Digest: 1, Depth: 1, Xof: 1 << 16}, nil, api.ErrXof)
}

func TestNewRefusesKeys(t *testing.T) { // ND1, ND3
	for _, k := range []api.Kind{api.Big, api.Small} {
		most := stateOf(k)
		for size := range most + 1 {
			p := api.Params{Digest: 1, Key: size, Fanout: 1, Depth: 1}
			for given := range most + 3 {
				if given != 0 && given != size {
					wantNoNew(t, k, p, make([]byte, given), api.ErrKey)
					continue
				}
				if n, e := New(k, p, make([]byte, given)); n == nil || e != api.OK {
					t.Errorf("New with a key of %d bytes where %d are told: %d", given, size, e)
				}
			}
		}
	}
}

func TestEmptyKeyIsNone(t *testing.T) { // ND1, P3
	for _, k := range []api.Kind{api.Big, api.Small} {
		s := setup{"without its key", k, api.Params{Digest: 16, Key: 9, Fanout: 1, Depth: 1}, nil, false}
		for _, key := range [][]byte{nil, {}, make([]byte, 9)[:0]} {
			n, e := New(k, s.p, key)
			wantOK(t, e)
			wantAll(t, n, s, nil)
			wantOK(t, n.Write([]byte("abc")))
			wantAll(t, n, s, []byte("abc"))
		}
	}
}

// TestKeyOfNoughts: such a key is there all the same.
func TestKeyOfNoughts(t *testing.T) { // ND1, ND2
	for _, k := range []api.Kind{api.Big, api.Small} {
		s := setup{"noughts", k, api.Params{Digest: 16, Key: 4, Fanout: 1, Depth: 1}, make([]byte, 4), false}
		n := made(t, s)
		wantAll(t, n, s, nil)
		without := s
		without.key = nil
		if bytes.Equal(n.Sum(), made(t, without).Sum()) {
			t.Error("a key of noughts is as none")
		}
	}
}

func TestWrittenAtOnce(t *testing.T) { // ND2
	for _, s := range setups() {
		for _, length := range append(edges(s.kind), 1000) {
			n, data := made(t, s), pattern(length)
			wantOK(t, n.Write(data))
			wantAll(t, n, s, data)
		}
	}
}

func TestPiecesOfEveryLength(t *testing.T) { // ND2, ND6
	for _, s := range setups() {
		for _, length := range edges(s.kind) {
			data := pattern(length)
			digest, bytesSaved := byChapter(t, s, data)[:s.p.Digest], saved(t, s, data)
			for size := 1; size <= length; size++ {
				n := made(t, s)
				for from := 0; from < length; from += size {
					wantOK(t, n.Write(data[from:min(from+size, length)]))
				}
				if !bytes.Equal(n.Sum(), digest) || !bytes.Equal(n.Save(), bytesSaved) || n.Written() != uint64(length) {
					t.Fatalf("%s, %d bytes by %d: Sum %x, Written %d, Save %x", s.name, length, size, n.Sum(), n.Written(), n.Save())
				}
			}
		}
	}
}

func TestTwoPieces(t *testing.T) { // ND2, ND6
	for _, s := range setups() {
		data := pattern(2*blockOf(s.kind) + 2)
		want := byChapter(t, s, data)
		for cut := range len(data) + 1 {
			n := made(t, s)
			wantOK(t, n.Write(data[:cut]))
			wantOK(t, n.Write(nil))
			wantOK(t, n.Write([]byte{}))
			wantOK(t, n.Write(data[cut:]))
			if got, e := n.Out(len(want)); !bytes.Equal(got, want) || e != api.OK {
				t.Fatalf("%s, cut at %d: %x %d", s.name, cut, got, e)
			}
		}
	}
}

func TestLast(t *testing.T) { // ND2
	for _, s := range setups() {
		for _, length := range edges(s.kind) {
			data := pattern(length)
			with, without := s, s
			with.last, without.last = true, false
			if bytes.Equal(byChapter(t, with, data), byChapter(t, without, data)) {
				t.Fatalf("%s: the flag does nothing", s.name)
			}
			n := made(t, without)
			wantOK(t, n.Last(true))
			wantAll(t, n, with, nil)
			wantOK(t, n.Write(data))
			wantAll(t, n, with, data)
			wantOK(t, n.Last(true))
			wantAll(t, n, with, data)
			wantOK(t, n.Last(false))
			wantAll(t, n, without, data)
			wantOK(t, n.Last(false))
			wantAll(t, n, without, data)
			wantOK(t, n.Write(data))
			wantOK(t, n.Last(true))
			wantAll(t, n, with, append(pattern(length), data...))
		}
	}
}

// TestAskedBetweenWrites asks all behind each byte; what is asked changes nothing.
func TestAskedBetweenWrites(t *testing.T) { // ND2, ND6
	for _, s := range setups() {
		n, data := made(t, s), pattern(2*blockOf(s.kind)+2)
		for i := range data {
			wantAll(t, n, s, data[:i])
			wantAll(t, n, s, data[:i])
			wantOK(t, n.Write(data[i:i+1]))
		}
		wantAll(t, n, s, data)
	}
}

func TestOut(t *testing.T) { // ND2
	for _, s := range setups() {
		for _, length := range edges(s.kind) {
			n, data := made(t, s), pattern(length)
			wantOK(t, n.Write(data))
			want := byChapter(t, s, data)
			for most := 1; most <= stateOf(s.kind); most++ {
				if got, e := n.Out(most); !bytes.Equal(got, want[:most]) || e != api.OK {
					t.Errorf("%s, %d bytes: Out(%d) = %x %d", s.name, length, most, got, e)
				}
			}
			for _, most := range []int{0, -1, stateOf(s.kind) + 1, stateOf(s.kind) + 2, 128, 256, 257, 1 << 32, math.MinInt, math.MaxInt} {
				if got, e := n.Out(most); got != nil || e != api.ErrArg {
					t.Errorf("%s: Out(%d) = %x %d", s.name, most, got, e)
				}
			}
			wantAll(t, n, s, data)
		}
	}
}

func TestWritten(t *testing.T) { // ND2
	for _, s := range setups() {
		n, total := made(t, s), 0
		if n.Written() != 0 {
			t.Errorf("%s: Written behind nothing: %d", s.name, n.Written())
		}
		for _, length := range append(edges(s.kind), edges(s.kind)...) {
			wantOK(t, n.Write(make([]byte, length)))
			total += length
			if n.Written() != uint64(total) {
				t.Errorf("%s: Written %d, want %d", s.name, n.Written(), total)
			}
		}
	}
}

func TestCopy(t *testing.T) { // ND2, ND6
	for _, s := range setups() {
		for _, length := range edges(s.kind) {
			data := pattern(length)
			n := made(t, s)
			wantOK(t, n.Write(data))
			c := n.Copy()
			if c == nil || c == n {
				t.Fatalf("%s: Copy: %p of %p", s.name, c, n)
			}
			wantAll(t, c, s, data)

			wantOK(t, n.Write([]byte("of the first")))
			wantAll(t, c, s, data)
			wantOK(t, c.Write([]byte("of the second one")))
			wantAll(t, n, s, append(pattern(length), "of the first"...))
			wantAll(t, c, s, append(pattern(length), "of the second one"...))

			other := s
			other.last = !s.last
			wantOK(t, c.Last(other.last))
			wantAll(t, n, s, append(pattern(length), "of the first"...))
			wantAll(t, c, other, append(pattern(length), "of the second one"...))

			wantOK(t, n.Reset())
			wantAll(t, c, other, append(pattern(length), "of the second one"...))
			d := c.Copy()
			wantOK(t, c.Reset())
			wantAll(t, d, other, append(pattern(length), "of the second one"...))
		}
	}
}

func TestReset(t *testing.T) { // ND2
	for _, s := range setups() {
		s.last = false
		first := made(t, s).Save()
		for _, length := range edges(s.kind) {
			n := made(t, s)
			wantOK(t, n.Last(true))
			wantOK(t, n.Write(pattern(length)))
			wantOK(t, n.Reset())
			wantAll(t, n, s, nil)
			if !bytes.Equal(n.Save(), first) {
				t.Errorf("%s: Reset behind %d bytes: %x", s.name, length, n.Save())
			}
			wantOK(t, n.Reset())
			wantAll(t, n, s, nil)
			wantOK(t, n.Write([]byte("abc")))
			wantAll(t, n, s, []byte("abc"))
		}
	}
}

func TestHash(t *testing.T) { // ND3
	for _, s := range setups() {
		for _, length := range edges(s.kind) {
			data, still := roomy(pattern(length))
			want := byChapter(t, s, data)
			for out := 1; out <= len(want); out++ {
				if got, e := Hash(s.kind, s.p, s.key, s.last, out, data); !bytes.Equal(got, want[:out]) || e != api.OK {
					t.Errorf("%s, %d bytes: Hash to %d bytes: %x %d", s.name, length, out, got, e)
				}
			}
			if !still() {
				t.Errorf("%s: Hash changed its data, or the room behind them", s.name)
			}
		}
		for _, out := range []int{0, -1, stateOf(s.kind) + 1, 256, 257, math.MinInt, math.MaxInt} {
			if got, e := Hash(s.kind, s.p, s.key, s.last, out, pattern(3)); got != nil || e != api.ErrArg {
				t.Errorf("%s: Hash to %d bytes: %x %d", s.name, out, got, e)
			}
		}
	}
}

func callOf(t *testing.T, s setup, out int, data []byte) api.Call {
	return api.Call{Kind: s.kind, Block: encoded(t, s), Key: s.key, Last: s.last, Out: out, Data: data}
}

func TestCall(t *testing.T) { // ND3
	for _, s := range setups() {
		for _, length := range edges(s.kind) {
			data := pattern(length)
			want := byChapter(t, s, data)
			for out := 1; out <= len(want); out++ {
				if got, e := Call(callOf(t, s, out, data)); !bytes.Equal(got, want[:out]) || e != api.OK {
					t.Errorf("%s, %d bytes: Call to %d bytes: %x %d", s.name, length, out, got, e)
				}
			}
		}
	}
}

func wantNoCall(t *testing.T, c api.Call, want api.Errno) {
	t.Helper()
	if got, e := Call(c); got != nil || e != want {
		t.Errorf("Call(%v): %x %d, want %d", c, got, e, want)
	}
}

func TestCallRefuses(t *testing.T) { // ND3, P2
	wantNoCall(t, api.Call{}, api.ErrArg)
	for _, s := range setups() {
		good := callOf(t, s, 1, []byte("abc"))
		for _, k := range []api.Kind{0, 3, -1, math.MinInt, math.MaxInt} {
			c := good
			c.Kind = k
			wantNoCall(t, c, api.ErrArg)
			c.Block, c.Key, c.Out = nil, make([]byte, 100), 0
			wantNoCall(t, c, api.ErrArg)
		}
		for _, block := range badBlocks(t, s) {
			c := good
			c.Block = block
			wantNoCall(t, c, api.ErrForm)
			c.Key, c.Out = make([]byte, 100), 0
			wantNoCall(t, c, api.ErrForm)
		}
		for size := 1; size < 300; size++ {
			if size == s.p.Key {
				continue
			}
			c := good
			c.Key = make([]byte, size)
			wantNoCall(t, c, api.ErrKey)
			c.Out = 0
			wantNoCall(t, c, api.ErrKey)
		}
		for _, out := range []int{0, -1, stateOf(s.kind) + 1, 256, 257, math.MinInt, math.MaxInt} {
			c := good
			c.Out = out
			wantNoCall(t, c, api.ErrArg)
		}
	}
}

// badBlocks are blocks that are of neither form.
func badBlocks(t *testing.T, s setup) [][]byte {
	size, block := stateOf(s.kind), encoded(t, s)
	list := [][]byte{nil, {}, block[:1], block[:size-1], append(bytes.Clone(block), 0), make([]byte, size)}
	with := func(at int, value byte) {
		b := bytes.Clone(block)
		b[at] = value
		list = append(list, b)
	}
	with(0, 0)
	with(0, byte(size+1))
	with(1, byte(size+1))
	if s.kind == api.Big {
		with(17, 65)
		with(18, 1)
		with(25, 0xff)
		with(31, 1)
	} else {
		with(15, 33)
	}
	if s.p.Xof == 0 && s.p.Offset == 0 {
		with(3, 0)
	}
	return list
}

// TestCallOfBothForms: a block without a depth may be of the extended form alone.
func TestCallOfBothForms(t *testing.T) { // ND3
	for k, at := range map[api.Kind]int{api.Big: 15, api.Small: 13} {
		block := make([]byte, stateOf(k))
		block[0], block[at] = 1, 0x80
		if got, e := Call(api.Call{Kind: k, Block: block, Out: 1}); len(got) != 1 || e != api.OK {
			t.Errorf("of kind %d, an extended block: %x %d", k, got, e)
		}
		block[at] = 0
		wantNoCall(t, api.Call{Kind: k, Block: block, Out: 1}, api.ErrForm)
		block[3] = 1
		if got, e := Call(api.Call{Kind: k, Block: block, Out: 1}); len(got) != 1 || e != api.OK {
			t.Errorf("of kind %d, a plain block: %x %d", k, got, e)
		}
	}
}

func TestNoHasher(t *testing.T) { // ND5, P1
	for name, n := range map[string]*Node{"nil": nil, "made by no call": {}, "new": new(Node)} {
		for range 2 {
			for _, b := range [][]byte{nil, {}, []byte("abc"), make([]byte, 1000)} {
				if e := n.Write(b); e != api.ErrZero {
					t.Errorf("%s: Write: %d", name, e)
				}
			}
			for _, on := range []bool{false, true} {
				if e := n.Last(on); e != api.ErrZero {
					t.Errorf("%s: Last: %d", name, e)
				}
			}
			for _, most := range []int{1, 32, 64, 0, -1, 65, math.MinInt, math.MaxInt} {
				if b, e := n.Out(most); b != nil || e != api.ErrZero {
					t.Errorf("%s: Out(%d): %x %d", name, most, b, e)
				}
			}
			if e := n.Reset(); e != api.ErrZero {
				t.Errorf("%s: Reset: %d", name, e)
			}
			if b := n.Sum(); b != nil {
				t.Errorf("%s: Sum: %x", name, b)
			}
			if b := n.Save(); b != nil {
				t.Errorf("%s: Save: %x", name, b)
			}
			if w := n.Written(); w != 0 {
				t.Errorf("%s: Written: %d", name, w)
			}
			if c := n.Copy(); c != nil {
				t.Errorf("%s: Copy: %v", name, c)
			}
		}
	}
}

// TestKeyIsABlockWrittenFirst holds a hasher with a key against one without it that has its block written.
func TestKeyIsABlockWrittenFirst(t *testing.T) { // ND6
	for _, s := range setups() {
		if s.key == nil {
			continue
		}
		without := s
		without.key = nil
		for _, length := range edges(s.kind) {
			n, m, data := made(t, s), made(t, without), pattern(length)
			wantOK(t, m.Write(s.message(nil)))
			wantOK(t, n.Write(data))
			wantOK(t, m.Write(data))
			for out := 1; out <= stateOf(s.kind); out++ {
				a, _ := n.Out(out)
				b, _ := m.Out(out)
				if !bytes.Equal(a, b) {
					t.Errorf("%s, %d bytes: Out %x and %x", s.name, length, a, b)
				}
			}
			if !bytes.Equal(n.Sum(), m.Sum()) || m.Written() != n.Written()+uint64(blockOf(s.kind)) {
				t.Errorf("%s, %d bytes: unlike a block written first", s.name, length)
			}
			wantOK(t, n.Reset())
			wantOK(t, m.Reset())
			s.last, without.last = false, false
			wantAll(t, n, s, nil)
			wantAll(t, m, without, nil)
		}
	}
}

// TestArgumentsStay changes what was handed in, behind the call.
func TestArgumentsStay(t *testing.T) { // P4
	for _, s := range setups() {
		key, keyStill := roomy(s.key)
		p, stills := s.p, []func() bool{keyStill}
		var still func() bool
		p.Salt, still = roomy(s.p.Salt)
		stills = append(stills, still)
		p.Personal, still = roomy(s.p.Personal)
		stills = append(stills, still)
		n, e := New(s.kind, p, key)
		wantOK(t, e)
		wantOK(t, n.Last(s.last))
		data, still := roomy(pattern(200))
		stills = append(stills, still)
		wantOK(t, n.Write(data))
		for _, still := range stills {
			if !still() {
				t.Errorf("%s: an argument is changed, or the room behind it", s.name)
			}
		}
		for _, b := range [][]byte{key, p.Salt, p.Personal, data} {
			spoil(b)
		}
		wantAll(t, n, s, pattern(200))
		wantOK(t, n.Reset())
		s.last = false
		wantAll(t, n, s, nil)
	}
}

func TestCallsArgumentsStay(t *testing.T) { // P4
	for _, s := range setups() {
		c := callOf(t, s, 5, pattern(200))
		var stills [3]func() bool
		c.Block, stills[0] = roomy(c.Block)
		c.Key, stills[1] = roomy(c.Key)
		c.Data, stills[2] = roomy(c.Data)
		_, e := Call(c)
		wantOK(t, e)
		for i, still := range stills {
			if !still() {
				t.Errorf("%s: list %d of the call is changed, or the room behind it", s.name, i)
			}
		}
	}
}

// TestAnswersAreNew spoils answers, spare room too.
func TestAnswersAreNew(t *testing.T) { // P4
	for _, s := range setups() {
		n, data := made(t, s), pattern(200)
		wantOK(t, n.Write(data))
		out, e := n.Out(3)
		wantOK(t, e)
		hash, e := Hash(s.kind, s.p, s.key, s.last, 3, data)
		wantOK(t, e)
		call, e := Call(callOf(t, s, 3, data))
		wantOK(t, e)
		list := [][]byte{n.Sum(), n.Sum(), out, hash, call, n.Save(), n.Save()}
		kept := make([][]byte, len(list))
		for i := range list {
			kept[i] = bytes.Clone(list[i])
		}
		for i := range list {
			spoil(list[i])
			for j := i + 1; j < len(list); j++ {
				if !bytes.Equal(list[j], kept[j]) {
					t.Errorf("%s: answers %d and %d share memory", s.name, i, j)
				}
			}
			wantAll(t, n, s, data)
		}
	}
}

// TestHashersOnTheirOwn works on many hashers by turns.
func TestHashersOnTheirOwn(t *testing.T) { // ND6, P5
	list := setups()
	var nodes []*Node
	for _, s := range list {
		nodes = append(nodes, made(t, s), made(t, s))
	}
	data := pattern(300)
	for i := range data {
		for j, n := range nodes {
			if j%2 == 0 || i%3 == 0 {
				wantOK(t, n.Write(data[i:i+1]))
			}
		}
	}
	var third []byte
	for i := 0; i < len(data); i += 3 {
		third = append(third, data[i])
	}
	for j, n := range nodes {
		if j%2 == 0 {
			wantAll(t, n, list[j/2], data)
		} else {
			wantAll(t, n, list[j/2], third)
		}
	}
}

// TestCallsInAnyOrder does by chance what can be done, refused things among it, and holds the hasher against a list of what was written.
func TestCallsInAnyOrder(t *testing.T) { // ND2, ND4, ND6, P2
	r := rand.New(rand.NewSource(71))
	for _, s := range setups() {
		for range 6 {
			n := made(t, s)
			s := s
			var data []byte
			for range 40 {
				switch r.Intn(9) {
				case 0, 1, 2:
					piece := someBytes(r, r.Intn(2*blockOf(s.kind)+3))
					wantOK(t, n.Write(piece))
					data = append(data, piece...)
				case 3:
					s.last = r.Intn(2) == 0
					wantOK(t, n.Last(s.last))
				case 4:
					left := n
					n = n.Copy()
					wantOK(t, left.Write([]byte("x")))
				case 5:
					m, e := Load(n.Save())
					wantOK(t, e)
					n = m
				case 6:
					if b, e := n.Out(stateOf(s.kind) + 1); b != nil || e != api.ErrArg {
						t.Errorf("Out: %x %d", b, e)
					}
				case 7:
					if m, e := Load(n.Save()[1:]); m != nil || e != api.ErrForm {
						t.Errorf("Load: %v %d", m, e)
					}
				case 8:
					if r.Intn(4) == 0 {
						wantOK(t, n.Reset())
						data, s.last = nil, false
					}
				}
				wantAll(t, n, s, data)
			}
		}
	}
}
