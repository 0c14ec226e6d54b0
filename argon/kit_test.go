package argon_test

import (
	"bytes"
	"encoding/binary"
	"encoding/hex"
	"math/big"
	"math/rand"
	"slices"
	"strconv"
	"testing"

	"quern/api"
	"quern/long"
	"quern/mac"
)

func rising(n int) []byte {
	b := make([]byte, n)
	for i := range b {
		b[i] = byte(i + 1)
	}
	return b
}

func pattern(n int) []byte {
	b := make([]byte, n)
	for i := range b {
		b[i] = byte((i*i + 3*i) % 251)
	}
	return b
}

func someBytes(r *rand.Rand, n int) []byte {
	b := make([]byte, n)
	r.Read(b)
	return b
}

func often(n int, c byte) []byte { return bytes.Repeat([]byte{c}, n) }

func unhex(t *testing.T, s string) []byte {
	t.Helper()
	b, err := hex.DecodeString(s)
	if err != nil {
		t.Fatal(err)
	}
	return b
}

// setting tells a setting with a tag of 32 bytes.
func setting(kind, memory, passes, lanes int) api.Argon {
	return api.Argon{Kind: kind, Memory: memory, Passes: passes, Lanes: lanes, Tag: 32}
}

// chapters is the setting of the chapter's example.
func chapters(kind int) api.Argon { return setting(kind, 32, 3, 4) }

// words are the word, the salt, the secret and the extra, in the order in which the calls take them.
type words [4][]byte

// examples are the words of the chapter's example.
func examples() words {
	return words{often(32, 1), often(16, 2), often(8, 3), often(12, 4)}
}

func someWords(r *rand.Rand) words {
	return words{someBytes(r, r.Intn(200)), someBytes(r, 8+r.Intn(57)), someBytes(r, r.Intn(65)), someBytes(r, r.Intn(300))}
}

func number32(n int) []byte { return binary.LittleEndian.AppendUint32(nil, uint32(n)) }

// startByWords is H0 as the chapter's words have it.
func startByWords(t *testing.T, a api.Argon, in words) []byte {
	t.Helper()
	b := slices.Concat(number32(a.Lanes), number32(a.Tag), number32(a.Memory), number32(a.Passes), number32(19), number32(a.Kind))
	for _, part := range in {
		b = append(append(b, number32(len(part))...), part...)
	}
	h, e := mac.Sum(api.Big, 64, b)
	if e != api.OK {
		t.Fatalf("H0: error %d", e)
	}
	return h
}

// widthByWords is how many columns a segment has.
func widthByWords(a api.Argon) int { return a.Memory / (4 * a.Lanes) }

func mix(x, y []byte) []byte {
	b, _ := long.Mix(x, y)
	return b
}

func xor(x, y []byte) []byte {
	b, _ := long.Xor(x, y)
	return b
}

// addressByWords is the number of one block as the chapter's words have it.
func addressByWords(a api.Argon, pass, slice, lane, x int) uint64 {
	noughts := make([]byte, 1024)
	var b []byte
	for _, n := range []int{pass, lane, slice, a.Lanes * 4 * widthByWords(a), a.Passes, a.Kind, x/128 + 1} {
		b = binary.LittleEndian.AppendUint64(b, uint64(n))
	}
	b = append(b, make([]byte, 1024-len(b))...)
	return binary.LittleEndian.Uint64(mix(noughts, mix(noughts, b))[8*(x%128):])
}

func addressesByWords(a api.Argon, pass, slice, lane int) []uint64 {
	var list []uint64
	for x := range widthByWords(a) {
		list = append(list, addressByWords(a, pass, slice, lane, x))
	}
	return list
}

// takable tells the columns of a lane that may be taken, those that were laid down first at first; lane is l in the words.
func takable(a api.Argon, pass, slice, lane, x, l int) []int {
	s := widthByWords(a)
	var list []int
	if pass > 0 {
		for column := (slice + 1) * s; column < 4*s; column++ {
			list = append(list, column)
		}
	}
	for column := range slice * s {
		list = append(list, column)
	}
	if l == lane {
		for place := range x {
			list = append(list, slice*s+place)
		}
	}
	if l == lane || x == 0 {
		list = list[:len(list)-1]
	}
	return list
}

// referByWords is the reference block as the chapter's words have it, in numbers without a bound.
func referByWords(a api.Argon, pass, slice, lane, x int, j uint64) (int, int) {
	two32 := new(big.Int).Lsh(big.NewInt(1), 32)
	j2, j1 := new(big.Int).DivMod(new(big.Int).SetUint64(j), two32, new(big.Int))
	l := lane
	if pass > 0 || slice > 0 {
		l = int(new(big.Int).Mod(j2, big.NewInt(int64(a.Lanes))).Int64())
	}
	list := takable(a, pass, slice, lane, x, l)
	p := new(big.Int).Div(new(big.Int).Mul(j1, j1), two32)
	q := new(big.Int).Div(p.Mul(p, big.NewInt(int64(len(list)))), two32)
	return l, list[len(list)-1-int(q.Int64())]
}

// byAddresses tells how a segment's blocks are drawn.
func byAddresses(kind, pass, slice int) bool {
	switch kind {
	case api.ArgonI:
		return true
	case api.ArgonID:
		return pass == 0 && slice <= 1
	}
	return false
}

// filled is a memory as the chapter's words have it: by lanes and columns.
type filled [][][]byte

func begunByWords(a api.Argon, start []byte) filled {
	var m filled
	for i := range a.Lanes {
		lane := make([][]byte, 4*widthByWords(a))
		for column := range 2 {
			lane[column], _ = long.Hash(1024, slices.Concat(start, number32(column), number32(i)))
		}
		m = append(m, lane)
	}
	return m
}

// drawn tells the number of a block that is yet to be laid down.
func (m filled) drawn(a api.Argon, pass, slice, lane, x int) uint64 {
	if byAddresses(a.Kind, pass, slice) {
		return addressByWords(a, pass, slice, lane, x)
	}
	return binary.LittleEndian.Uint64(m.ahead(lane, slice*widthByWords(a)+x))
}

func (m filled) ahead(lane, column int) []byte {
	if column == 0 {
		return m[lane][len(m[lane])-1]
	}
	return m[lane][column-1]
}

// lay lays one block down, of its reference block.
func (m filled) lay(pass, lane, column int, reference []byte) {
	b := mix(m.ahead(lane, column), reference)
	if pass > 0 {
		b = xor(b, m[lane][column])
	}
	m[lane][column] = b
}

// fillByWords is the memory as the chapter's words have it; each place's number is worked out by itself.
func fillByWords(a api.Argon, start []byte) filled {
	m := begunByWords(a, start)
	s := widthByWords(a)
	for pass := range a.Passes {
		for slice := range 4 {
			for lane := range a.Lanes {
				for x := range s {
					if pass == 0 && slice == 0 && x < 2 {
						continue
					}
					l, column := referByWords(a, pass, slice, lane, x, m.drawn(a, pass, slice, lane, x))
					m.lay(pass, lane, slice*s+x, m[l][column])
				}
			}
		}
	}
	return m
}

func (m filled) tag(a api.Argon) []byte {
	laid := make([]byte, 1024)
	for _, lane := range m {
		laid = xor(laid, lane[len(lane)-1])
	}
	b, _ := long.Hash(a.Tag, laid)
	return b
}

func hashByWords(t *testing.T, a api.Argon, in words) []byte {
	t.Helper()
	return fillByWords(a, startByWords(t, a, in)).tag(a)
}

func wantBytes(t *testing.T, what string, got []byte, e api.Errno, right []byte) {
	t.Helper()
	if e != api.OK || !bytes.Equal(got, right) {
		t.Errorf("%s: %s %d, want %s", what, short(got), e, short(right))
	}
}

// wantNone wants an error and nothing beside it; n is how much there is beside it.
func wantNone(t *testing.T, what string, n int, got, right api.Errno) {
	t.Helper()
	if got != right || n != 0 {
		t.Errorf("%s: error %d and %d beside it, want error %d and nothing beside it", what, got, n, right)
	}
}

func wantSame(t *testing.T, what string, got [][]byte, e api.Errno, m filled) {
	t.Helper()
	right := slices.Concat(m...)
	if e != api.OK || len(got) != len(right) {
		t.Errorf("%s: %d blocks, error %d, want %d blocks", what, len(got), e, len(right))
		return
	}
	for i := range right {
		if !bytes.Equal(got[i], right[i]) {
			t.Errorf("%s: block %d is %s, want %s", what, i, short(got[i]), short(right[i]))
			return
		}
	}
}

// short tells a list by its first bytes and its length.
func short(b []byte) string {
	if len(b) <= 40 {
		return hex.EncodeToString(b)
	}
	return hex.EncodeToString(b[:40]) + ".. (" + strconv.Itoa(len(b)) + " bytes)"
}

// roomy lays b into a longer list, with marks in the room behind its end; still tells whether it is all as it was.
func roomy(b []byte) (list []byte, still func() bool) {
	whole := append(bytes.Clone(b), often(1500, 0xa5)...)
	before := bytes.Clone(whole)
	return whole[:len(b)], func() bool { return bytes.Equal(whole, before) }
}

// spoil overwrites a list and the room behind its end.
func spoil(b []byte) {
	whole := b[:cap(b)]
	for i := range whole {
		whole[i] ^= 0xff
	}
}
