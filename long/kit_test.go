package long_test

import (
	"bytes"
	"encoding/binary"
	"encoding/hex"
	"math/big"
	"math/rand"
	"testing"

	"quern/api"
	"quern/node"
)

func rising(n int) []byte {
	b := make([]byte, n)
	for i := range b {
		b[i] = byte(i + 1)
	}
	return b
}

func pattern(n int) []byte {
	b := make([]byte, n)
	for i := range b {
		b[i] = byte((i*i + 3*i) % 251)
	}
	return b
}

func someBytes(r *rand.Rand, n int) []byte {
	b := make([]byte, n)
	r.Read(b)
	return b
}

// oneByte tells a block of noughts with b at the place at.
func oneByte(at int, b byte) []byte {
	x := make([]byte, 1024)
	x[at] = b
	return x
}

// blocks are those that the other program named.
func blocks() map[string][]byte {
	return map[string][]byte{
		"noughts":   make([]byte, 1024),
		"pattern":   pattern(1024),
		"rising":    rising(1024),
		"full":      bytes.Repeat([]byte{0xff}, 1024),
		"first bit": oneByte(0, 1),
		"last bit":  oneByte(1023, 0x80),
		"word 17":   oneByte(136, 0x10),
	}
}

func unhex(t *testing.T, s string) []byte {
	t.Helper()
	b, err := hex.DecodeString(s)
	if err != nil {
		t.Fatal(err)
	}
	return b
}

// plain is the chapter's D(n, b).
func plain(t *testing.T, n int, b []byte) []byte {
	t.Helper()
	d, e := node.Hash(api.Big, api.Params{Digest: n, Fanout: 1, Depth: 1}, nil, false, n, b)
	if e != api.OK {
		t.Fatalf("D(%d): error %d", n, e)
	}
	return d
}

// hashByWords is Hash as the chapter's words have it.
func hashByWords(t *testing.T, size int, data []byte) []byte {
	t.Helper()
	b := append([]byte{byte(size), byte(size >> 8), byte(size >> 16), byte(size >> 24)}, data...)
	if size <= 64 {
		return plain(t, size, b)
	}
	r := (size+31)/32 - 2
	var out []byte
	for range r {
		b = plain(t, 64, b)
		out = append(out, b[:32]...)
	}
	return append(out, plain(t, size-32*r, b)...)
}

// blendByWords is Blend as the chapter's words have it, in numbers without a bound that are cut to 64 bits behind each sum.
func blendByWords(w [4]uint64) [4]uint64 {
	grow := func(to, by int) {
		two32 := new(big.Int).Lsh(big.NewInt(1), 32)
		x, y := new(big.Int).SetUint64(w[to]), new(big.Int).SetUint64(w[by])
		product := new(big.Int).Mul(new(big.Int).Mod(x, two32), new(big.Int).Mod(y, two32))
		sum := new(big.Int).Add(x, y)
		sum.Add(sum, product).Add(sum, product)
		w[to] = sum.Mod(sum, new(big.Int).Mul(two32, two32)).Uint64()
	}
	turn := func(to, by, n int) {
		x := w[to] ^ w[by]
		for range n {
			x = x>>1 | x&1<<63
		}
		w[to] = x
	}
	const a, b, c, d = 0, 1, 2, 3
	grow(a, b)
	turn(d, a, 32)
	grow(c, d)
	turn(b, c, 24)
	grow(a, b)
	turn(d, a, 16)
	grow(c, d)
	turn(b, c, 63)
	return w
}

// permByWords is Perm as the chapter's words have it.
func permByWords(v [16]uint64) [16]uint64 {
	for _, p := range [][4]int{
		{0, 4, 8, 12}, {1, 5, 9, 13}, {2, 6, 10, 14}, {3, 7, 11, 15},
		{0, 5, 10, 15}, {1, 6, 11, 12}, {2, 7, 8, 13}, {3, 4, 9, 14},
	} {
		w := blendByWords([4]uint64{v[p[0]], v[p[1]], v[p[2]], v[p[3]]})
		for i, at := range p {
			v[at] = w[i]
		}
	}
	return v
}

func xorByWords(x, y []byte) []byte {
	out := make([]byte, len(x))
	for i := range out {
		out[i] = x[i] ^ y[i]
	}
	return out
}

// mixByWords is Mix as the chapter's words have it: rows, and then pairs of columns.
func mixByWords(x, y []byte) []byte {
	r := xorByWords(x, y)
	var z []uint64
	for i := range 128 {
		z = append(z, binary.LittleEndian.Uint64(r[8*i:]))
	}
	for i := range 8 {
		row := permByWords([16]uint64(z[16*i : 16*i+16]))
		copy(z[16*i:], row[:])
	}
	for i := range 8 {
		var column [16]uint64
		for k := range 8 {
			column[2*k], column[2*k+1] = z[2*i+16*k], z[2*i+1+16*k]
		}
		column = permByWords(column)
		for k := range 8 {
			z[2*i+16*k], z[2*i+1+16*k] = column[2*k], column[2*k+1]
		}
	}
	var laid []byte
	for _, w := range z {
		laid = binary.LittleEndian.AppendUint64(laid, w)
	}
	return xorByWords(r, laid)
}

func wantBytes(t *testing.T, what string, got []byte, e api.Errno, right []byte) {
	t.Helper()
	if e != api.OK || !bytes.Equal(got, right) {
		t.Errorf("%s: %s %d, want %s", what, short(got), e, short(right))
	}
}

func wantNone(t *testing.T, what string, got []byte, e api.Errno) {
	t.Helper()
	if e != api.ErrArg || len(got) != 0 {
		t.Errorf("%s: %s %d, want error %d and nothing beside it", what, short(got), e, api.ErrArg)
	}
}

// short tells a list by its first bytes and its length.
func short(b []byte) string {
	if len(b) <= 40 {
		return hex.EncodeToString(b)
	}
	return hex.EncodeToString(b[:40]) + ".. (" + big.NewInt(int64(len(b))).String() + " bytes)"
}

// roomy lays b into a longer list, with marks in the room behind its end; still tells whether it is all as it was.
func roomy(b []byte) (list []byte, still func() bool) {
	whole := append(bytes.Clone(b), bytes.Repeat([]byte{0xa5}, 1500)...)
	before := bytes.Clone(whole)
	return whole[:len(b)], func() bool { return bytes.Equal(whole, before) }
}

// spoil overwrites a list and the room behind its end.
func spoil(b []byte) {
	whole := b[:cap(b)]
	for i := range whole {
		whole[i] ^= 0xff
	}
}
