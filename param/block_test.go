package param

import (
	"bytes"
	"encoding/binary"
	"math"
	"math/rand"
	"testing"

	"quern/api"
)

// blockOf lays a block down as the chapter's table says, place by place.
func blockOf(k api.Kind, p api.Params) []byte {
	var b []byte
	b = append(b, byte(p.Digest), byte(p.Key), byte(p.Fanout), byte(p.Depth))
	b = binary.LittleEndian.AppendUint32(b, p.Leaf)
	eight := binary.LittleEndian.AppendUint64(nil, p.Offset)
	if p.Xof != 0 {
		binary.LittleEndian.PutUint32(eight[4:], p.Xof)
	}
	if k == api.Small {
		b = append(append(b, eight[:6]...), byte(p.NodeDepth), byte(p.Inner))
	} else {
		b = append(append(append(b, eight...), byte(p.NodeDepth), byte(p.Inner)), noughts(14)...)
	}
	for _, salt := range [][]byte{p.Salt, p.Personal} {
		b = append(append(b, salt...), noughts(saltOf(k)-len(salt))...)
	}
	return b
}

func TestEncode(t *testing.T) { // P2.4
	r := rand.New(rand.NewSource(24))
	for range 4000 {
		for _, k := range bothKinds {
			p := someParams(r, k)
			if b, e := Encode(k, p); e != api.OK || !bytes.Equal(b, blockOf(k, p)) {
				t.Fatalf("Encode(%d, %v) = %x, %d", k, p, b, e)
			}
		}
	}
}

func TestEncodeEachField(t *testing.T) { // P2.4
	p := api.Params{Digest: 0x11, Key: 0x12, Fanout: 0x13, Depth: 0x14, Leaf: 0x18171615, Offset: 0x1c1b1a19, NodeDepth: 0x21, Inner: 0x1f}
	p.Salt, p.Personal = []byte{0x31, 0x32}, []byte{0x41}
	want := map[api.Kind][]byte{
		api.Big:   append(append([]byte{0x11, 0x12, 0x13, 0x14, 0x15, 0x16, 0x17, 0x18, 0x19, 0x1a, 0x1b, 0x1c, 0x1d, 0x1e, 0, 0, 0x21, 0x1f}, append(noughts(14), 0x31, 0x32)...), append(append(noughts(14), 0x41), noughts(15)...)...),
		api.Small: append(append([]byte{0x11, 0x12, 0x13, 0x14, 0x15, 0x16, 0x17, 0x18, 0x19, 0x1a, 0x1b, 0x1c, 0x1d, 0x1e, 0x21, 0x1f}, 0x31, 0x32, 0, 0, 0, 0, 0, 0), append([]byte{0x41}, noughts(7)...)...),
	}
	for _, k := range bothKinds {
		q := p
		q.Xof = 0x1e1d
		if b, e := Encode(k, q); e != api.OK || !bytes.Equal(b, want[k]) {
			t.Errorf("extended: %x, %d", b, e)
		}
		q = p
		q.Offset |= 0x1e1d << 32
		if b, e := Encode(k, q); e != api.OK || !bytes.Equal(b, want[k]) {
			t.Errorf("plain: %x, %d", b, e)
		}
	}
}

func TestDecode(t *testing.T) { // P2.4, P2.10
	r := rand.New(rand.NewSource(25))
	for range 4000 {
		for _, k := range bothKinds {
			p := someParams(r, k)
			q, e := Decode(k, blockOf(k, p), p.Xof != 0)
			if e != api.OK || !same(q, normalOf(p)) {
				t.Fatalf("Decode of the block of %v: %v, %d", p, q, e)
			}
		}
	}
}

// taken is a block that Decode takes in both forms.
func taken(k api.Kind) []byte {
	b := noughts(sizeOf(k))
	b[0], b[3], b[12] = 1, 1, 1
	return b
}

func mustRefuseBlock(t *testing.T, k api.Kind, b []byte, extended bool, want api.Errno) {
	t.Helper()
	if p, e := Decode(k, b, extended); e != want || !isZero(p) {
		t.Errorf("Decode(%d, %x, %v) = %v, %d, not %d", k, b, extended, p, e, want)
	}
}

func TestDecodeLengths(t *testing.T) { // P2.4
	for _, k := range bothKinds {
		for _, form := range []bool{false, true} {
			for n := range 130 {
				b := make([]byte, n)
				copy(b, taken(k))
				switch {
				case n < sizeOf(k):
					mustRefuseBlock(t, k, b, form, api.ErrShort)
				case n > sizeOf(k):
					mustRefuseBlock(t, k, b, form, api.ErrLong)
				default:
					if _, e := Decode(k, b, form); e != api.OK {
						t.Errorf("Decode(%d, %x, %v): %d", k, b, form, e)
					}
				}
			}
			mustRefuseBlock(t, k, nil, form, api.ErrShort)
		}
	}
}

func TestDecodeNoughts(t *testing.T) { // P2.4
	for i := 18; i < 32; i++ {
		for _, v := range []byte{1, 128, 255} {
			b := taken(api.Big)
			b[i] = v
			mustRefuseBlock(t, api.Big, b, false, api.ErrForm)
			mustRefuseBlock(t, api.Big, b, true, api.ErrForm)
			// It comes ahead of Xof's noughts and of all of Check's.
			clear(b[:16])
			mustRefuseBlock(t, api.Big, b, false, api.ErrForm)
			mustRefuseBlock(t, api.Big, b, true, api.ErrForm)
		}
	}
	for _, i := range []int{17, 32} {
		b := taken(api.Big)
		b[i] = 1
		if _, e := Decode(api.Big, b, false); e != api.OK {
			t.Errorf("byte %d counts as one of the noughts: %d", i, e)
		}
	}
	b := taken(api.Small)
	copy(b[16:], ones(16))
	if p, e := Decode(api.Small, b, true); e != api.OK || !bytes.Equal(p.Salt, ones(8)) || !bytes.Equal(p.Personal, ones(8)) {
		t.Errorf("Small has no noughts: %v, %d", p, e)
	}
}

func TestDecodeXof(t *testing.T) { // P2.4
	for _, k := range bothKinds {
		b := taken(k)
		clear(b[8:16])
		b[11] = 1 // Offset's alone
		mustRefuseBlock(t, k, b, true, api.ErrXof)
		b[0], b[1] = 0, 255
		mustRefuseBlock(t, k, b, true, api.ErrXof) // ahead of Check's
		mustRefuseBlock(t, k, b, false, api.ErrDigest)
	}
	small := taken(api.Small)
	small[12], small[14], small[15] = 0, 255, 32 // behind the two bytes of Small's Xof
	mustRefuseBlock(t, api.Small, small, true, api.ErrXof)
	for i := 12; i < 16; i++ {
		b := taken(api.Big)
		b[12] = 0
		b[i] = 2
		if p, e := Decode(api.Big, b, true); e != api.OK || p.Xof != 2<<(8*(i-12)) || p.Offset != 0 {
			t.Errorf("Decode with %d: %v, %d", i, p, e)
		}
		if p, e := Decode(api.Big, b, false); e != api.OK || p.Xof != 0 || p.Offset != 2<<(8*(i-8)) {
			t.Errorf("Decode with %d: %v, %d", i, p, e)
		}
	}
}

func TestDecodeTellsCheck(t *testing.T) { // P2.4
	for _, k := range bothKinds {
		most := mostOf(k)
		inner := map[api.Kind]int{api.Big: 17, api.Small: 15}[k]
		for _, form := range []bool{false, true} {
			for v := range 256 {
				for _, c := range []struct {
					at   int
					good bool
					e    api.Errno
				}{
					{0, v >= 1 && v <= most, api.ErrDigest},
					{1, v <= most, api.ErrKey},
					{2, true, 0},
					{3, v >= 1 || form, api.ErrDepth},
					{inner - 1, true, 0},
					{inner, v <= most, api.ErrInner},
				} {
					b := taken(k)
					b[c.at] = byte(v)
					if !c.good {
						mustRefuseBlock(t, k, b, form, c.e)
					} else if _, e := Decode(k, b, form); e != api.OK {
						t.Errorf("Decode(%d, %x, %v): %d", k, b, form, e)
					}
				}
			}
		}
	}
	b := taken(api.Big)
	b[0], b[1], b[3], b[17] = 65, 65, 0, 65
	mustRefuseBlock(t, api.Big, b, false, api.ErrDigest)
	b[0] = 1
	mustRefuseBlock(t, api.Big, b, false, api.ErrKey)
	b[1] = 0
	mustRefuseBlock(t, api.Big, b, false, api.ErrDepth)
	mustRefuseBlock(t, api.Big, b, true, api.ErrInner)
}

func TestTwin(t *testing.T) { // P2.5
	for _, k := range bothKinds {
		p := api.Params{Digest: 5, Key: 1, Fanout: 2, Depth: 3, Leaf: 4, Offset: 7 + 9<<32, NodeDepth: 6, Inner: 8, Salt: []byte{1, 0}, Personal: []byte{0, 2, 0, 0}}
		want := normalOf(p)
		want.Offset, want.Xof = 7, 9
		q, is, e := Twin(k, p)
		if !is || e != api.OK || !same(q, want) {
			t.Errorf("Twin(%d, %v) = %v, %v, %d", k, p, q, is, e)
		}
		back, is, e := Twin(k, q)
		if !is || e != api.OK || !same(back, normalOf(p)) {
			t.Errorf("Twin(%d, %v) = %v, %v, %d", k, q, back, is, e)
		}
	}
}

func TestNoTwin(t *testing.T) { // P2.5
	for _, k := range bothKinds {
		for _, p := range []api.Params{
			plain(), // the bytes of Xof are noughts
			{Digest: 1, Depth: 1, Offset: math.MaxUint32, Salt: []byte{1}, Personal: []byte{2}},
			extended(), // Depth 0 can't be plain
			{Digest: 1, Fanout: 2, Offset: 3, Xof: 65535, Salt: []byte{1}, Personal: []byte{2}},
		} {
			if q, is, e := Twin(k, p); is || e != api.OK || !isZero(q) {
				t.Errorf("Twin(%d, %v) = %v, %v, %d", k, p, q, is, e)
			}
		}
	}
}

func TestTwinOfSome(t *testing.T) { // P2.5
	r := rand.New(rand.NewSource(26))
	for range 4000 {
		for _, k := range bothKinds {
			p := someParams(r, k)
			q, is, e := Twin(k, p)
			may := p.Offset>>32 != 0
			if p.Xof != 0 {
				may = p.Depth != 0
			}
			if e != api.OK || is != may {
				t.Fatalf("Twin(%d, %v) = %v, %v, %d", k, p, q, is, e)
			}
			if is && ((q.Xof == 0) == (p.Xof == 0) || !same(q, normalOf(q)) || !bytes.Equal(blockOf(k, q), blockOf(k, p))) {
				t.Fatalf("Twin(%d, %v) = %v", k, p, q)
			}
		}
	}
}

func TestWords(t *testing.T) { // P2.6
	r := rand.New(rand.NewSource(27))
	for range 500 {
		for _, k := range bothKinds {
			p := someParams(r, k)
			b := blockOf(k, p)
			words, e := Words(k, p)
			if e != api.OK || len(words) != 8 {
				t.Fatalf("Words(%d, %v) = %x, %d", k, p, words, e)
			}
			for i, w := range words {
				want := uint64(0)
				if k == api.Big {
					want = binary.LittleEndian.Uint64(b[8*i:])
				} else {
					want = uint64(binary.LittleEndian.Uint32(b[4*i:]))
				}
				if w != want {
					t.Fatalf("word %d of %x: %x", i, b, w)
				}
			}
		}
	}
}

// placesOf is the table of the chapter once more: of each field its place and its bytes.
func placesOf(k api.Kind) map[int][2]int {
	places := map[int][2]int{
		api.FieldDigest: {0, 1}, api.FieldKey: {1, 1}, api.FieldFanout: {2, 1}, api.FieldDepth: {3, 1}, api.FieldLeaf: {4, 4},
		api.FieldOffset: {8, 8}, api.FieldXof: {12, 4}, api.FieldNode: {16, 1}, api.FieldInner: {17, 1},
	}
	if k == api.Small {
		places[api.FieldOffset], places[api.FieldXof] = [2]int{8, 6}, [2]int{12, 2}
		places[api.FieldNode], places[api.FieldInner] = [2]int{14, 1}, [2]int{15, 1}
	}
	return places
}

func anyBlock(r *rand.Rand, k api.Kind) []byte {
	b := make([]byte, sizeOf(k))
	r.Read(b)
	return b
}

func TestGetAndPut(t *testing.T) { // P2.7
	r := rand.New(rand.NewSource(28))
	for _, k := range bothKinds {
		for field, place := range placesOf(k) {
			at, size := place[0], place[1]
			for range 50 {
				b := anyBlock(r, k)
				eight := append(bytes.Clone(b[at:at+size]), noughts(8-size)...)
				if n, e := Get(k, b, field); e != api.OK || n != binary.LittleEndian.Uint64(eight) {
					t.Fatalf("Get(%d, %x, %d) = %x, %d", k, b, field, n, e)
				}
				value := pickWord(r, 8*size)
				want := bytes.Clone(b)
				copy(want[at:at+size], binary.LittleEndian.AppendUint64(nil, value))
				put, e := Put(k, b, field, value)
				if e != api.OK || !bytes.Equal(put, want) {
					t.Fatalf("Put(%d, %x, %d, %x) = %x, %d", k, b, field, value, put, e)
				}
				if n, _ := Get(k, put, field); n != value {
					t.Fatalf("Get of Put: %x, not %x", n, value)
				}
			}
			mustPutEnds(t, k, field, size)
		}
	}
}

func mustPutEnds(t *testing.T, k api.Kind, field, size int) {
	t.Helper()
	b := noughts(sizeOf(k))
	last := uint64(math.MaxUint64) >> (64 - 8*size)
	if put, e := Put(k, b, field, last); e != api.OK || len(put) != len(b) {
		t.Errorf("Put(%d, field %d, %x): %d", k, field, last, e)
	}
	if size == 8 {
		return
	}
	for _, value := range []uint64{last + 1, last + 2, (last + 1) << 4, math.MaxUint64} {
		if put, e := Put(k, b, field, value); e != api.ErrArg || len(put) != 0 {
			t.Errorf("Put(%d, field %d, %x): %x, %d", k, field, value, put, e)
		}
	}
}

func TestNoField(t *testing.T) { // P2.7
	for _, k := range bothKinds {
		b := taken(k)
		for _, field := range []int{0, -1, 10, 11, 12, 13, 255, 257, lowest, highest, 1 << 32, 1<<32 + 1} {
			if n, e := Get(k, b, field); n != 0 || e != api.ErrArg {
				t.Errorf("Get(%d, field %d) = %d, %d", k, field, n, e)
			}
			if put, e := Put(k, b, field, 0); len(put) != 0 || e != api.ErrArg {
				t.Errorf("Put(%d, field %d) = %x, %d", k, field, put, e)
			}
		}
	}
}

func TestGetAndPutLengths(t *testing.T) { // P2.7
	for _, k := range bothKinds {
		for n := range 130 {
			want := api.OK
			if n < sizeOf(k) {
				want = api.ErrShort
			} else if n > sizeOf(k) {
				want = api.ErrLong
			}
			for _, field := range []int{api.FieldDigest, api.FieldInner, 0, 10} {
				// A length that can't be comes ahead of a field that is none.
				expect := want
				if want == api.OK && (field == 0 || field == 10) {
					expect = api.ErrArg
				}
				if _, e := Get(k, noughts(n), field); e != expect {
					t.Errorf("Get(%d, %d bytes, field %d): %d", k, n, field, e)
				}
				if put, e := Put(k, noughts(n), field, 1); e != expect || (e != api.OK && len(put) != 0) {
					t.Errorf("Put(%d, %d bytes, field %d): %x, %d", k, n, field, put, e)
				}
				if want != api.OK {
					if _, e := Put(k, noughts(n), field, math.MaxUint64); e != want {
						t.Errorf("Put(%d, %d bytes, field %d) of too much: %d", k, n, field, e)
					}
				}
			}
		}
		if _, e := Get(k, nil, api.FieldKey); e != api.ErrShort {
			t.Errorf("Get(%d, nil): %d", k, e)
		}
		if _, e := Put(k, nil, api.FieldKey, 0); e != api.ErrShort {
			t.Errorf("Put(%d, nil): %d", k, e)
		}
	}
}

// TestPutLeavesTheBlock: what is put stands in a new block alone.
func TestPutLeavesTheBlock(t *testing.T) { // P2.7, P4
	for _, k := range bothKinds {
		b := taken(k)
		for field := range placesOf(k) {
			put, _ := Put(k, b, field, 77)
			if !bytes.Equal(b, taken(k)) || bytes.Equal(put, b) {
				t.Errorf("Put(%d, field %d) changed what it was given", k, field)
			}
		}
	}
}

// TestBlocksThereAndBack goes from blocks to parameters, and back.
func TestBlocksThereAndBack(t *testing.T) { // P2.10
	r := rand.New(rand.NewSource(29))
	went := 0
	for range 20000 {
		k := bothKinds[r.Intn(2)]
		b := anyBlock(r, k)
		b[0], b[1] = b[0]&31, b[1]&31
		if k == api.Big {
			clear(b[18:32])
			b[17] &= 31
		} else {
			b[15] &= 31
		}
		for _, i := range []int{3, 12, 13, 14, 15} {
			b[i] *= byte(r.Intn(2))
		}
		for _, form := range []bool{false, true} {
			p, e := Decode(k, b, form)
			if e != api.OK {
				continue
			}
			went++
			if back, e := Encode(k, p); e != api.OK || !bytes.Equal(back, b) || (p.Xof != 0) != form || !same(p, normalOf(p)) {
				t.Fatalf("Encode of Decode(%d, %x, %v) = %x, %d", k, b, form, back, e)
			}
		}
	}
	if went < 10000 {
		t.Errorf("only %d blocks were taken", went)
	}
}

// TestUnlikeBlocks changes normal parameters a little within their form.
func TestUnlikeBlocks(t *testing.T) { // P2.10
	changes := []func(*api.Params){
		func(q *api.Params) { q.Digest ^= 1 },
		func(q *api.Params) { q.Key ^= 1 },
		func(q *api.Params) { q.Fanout ^= 1 },
		func(q *api.Params) { q.Depth ^= 1 },
		func(q *api.Params) { q.Leaf ^= 1 << 31 },
		func(q *api.Params) { q.Offset ^= 1 << 31 },
		func(q *api.Params) { q.Offset ^= 1 << 47 },
		func(q *api.Params) { q.Xof ^= 1 << 15 },
		func(q *api.Params) { q.NodeDepth ^= 1 },
		func(q *api.Params) { q.Inner ^= 1 },
		func(q *api.Params) { q.Salt = append(bytes.Clone(q.Salt), 1) },
		func(q *api.Params) { q.Personal = append(bytes.Clone(q.Personal), 1) },
		func(q *api.Params) { q.Salt = append([]byte{0}, q.Salt...) },
	}
	r := rand.New(rand.NewSource(30))
	for range 1000 {
		for _, k := range bothKinds {
			p := normalOf(someParams(r, k))
			b, _ := Encode(k, p)
			for _, change := range changes {
				q := p
				change(&q)
				if Check(k, q) != api.OK || (q.Xof == 0) != (p.Xof == 0) {
					continue
				}
				if is, _ := Same(k, p, q); is {
					continue
				}
				if c, _ := Encode(k, q); bytes.Equal(b, c) {
					t.Fatalf("%v and %v have one block", p, q)
				}
			}
		}
	}
}

func TestBlockExamples(t *testing.T) { // Examples 1, 2 and 4
	p, _ := Plain(api.Big, 32, 0)
	b, e := Encode(api.Big, p)
	if e != api.OK || !bytes.Equal(b, append([]byte{32, 0, 1, 1}, noughts(60)...)) {
		t.Errorf("Encode: %x, %d", b, e)
	}
	words, _ := Words(api.Big, p)
	for i, w := range words {
		if (i == 0 && w != 0x01010020) || (i > 0 && w != 0) {
			t.Errorf("Words: %x", words)
		}
	}
	x := api.Params{Digest: 64, Leaf: 64, Offset: 3, Xof: 100, Inner: 64}
	b, e = Encode(api.Big, x)
	want := append([]byte{0x40, 0, 0, 0, 0x40, 0, 0, 0, 3, 0, 0, 0, 0x64, 0, 0, 0, 0, 0x40}, noughts(46)...)
	if e != api.OK || !bytes.Equal(b, want) {
		t.Errorf("Encode: %x, %d", b, e)
	}
	if q, is, e := Twin(api.Big, x); is || e != api.OK || !isZero(q) {
		t.Errorf("Twin: %v, %v, %d", q, is, e)
	}
	x.Depth = 1
	if q, is, e := Twin(api.Big, x); !is || e != api.OK || q.Offset != 3+100<<32 || q.Xof != 0 {
		t.Errorf("Twin: %v, %v, %d", q, is, e)
	}
	if n, e := Get(api.Big, b, api.FieldXof); n != 100 || e != api.OK {
		t.Errorf("Get: %d, %d", n, e)
	}
	if n, e := Get(api.Big, b, api.FieldOffset); n != 3+100<<32 || e != api.OK {
		t.Errorf("Get: %d, %d", n, e)
	}
	if _, e := Put(api.Small, noughts(32), api.FieldDigest, 256); e != api.ErrArg {
		t.Errorf("Put of 256: %d", e)
	}
}
