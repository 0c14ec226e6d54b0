package xof

import (
	"bytes"
	"math"
	"testing"

	"quern/api"
)

func TestToldBytes(t *testing.T) { // XF2, XF3
	for _, c := range toldBytes {
		m := told{c.kind, c.length, rising(c.key), rising(c.salt), rising(c.personal), pattern(c.data)}
		right := unhex(t, c.want)
		s := m.begun(t)
		wantSkip(t, s, c.from, c.from)
		wantRead(t, s, c.n, right)
		if c.salt+c.personal == 0 {
			b, e := Take(c.kind, c.length, m.key, m.data, c.from, c.n)
			want(t, "Take", b, e, right)
		}
		root, e := Root(c.kind, c.length, m.key, m.salt, m.personal, m.data)
		wantOK(t, e)
		size := uint64(sizeOf(c.kind))
		p, e := Piece(c.kind, c.length, m.salt, m.personal, root, c.from/size)
		wantOK(t, e)
		within := int(c.from % size)
		n := min(len(p)-within, len(right))
		want(t, "Piece", p[within:within+n], e, right[:n])
	}
}

func TestToldRoots(t *testing.T) { // XF3
	for _, c := range toldRoots {
		b, e := Root(c.kind, c.length, rising(c.key), rising(c.salt), rising(c.personal), pattern(c.data))
		want(t, "Root", b, e, unhex(t, c.want))
	}
}

func TestRoots(t *testing.T) { // XF3: whatever the length, the whole output; also the edges of blocks
	for _, k := range kinds {
		block := 2 * sizeOf(k)
		for _, length := range []int{1, 31, 64, 1000, longestOf(k), api.Unknown} {
			for _, n := range []int{0, 1, block - 1, block, block + 1, 2 * block} {
				m := told{k, length, rising(n % 8), rising(n % 7), rising(n % 5), pattern(n)}
				b, e := Root(k, length, m.key, m.salt, m.personal, m.data)
				want(t, "Root", b, e, m.root(t))
				if len(b) != sizeOf(k) {
					t.Errorf("Root: %d bytes", len(b))
				}
			}
		}
	}
}

func TestRootRefuses(t *testing.T) { // XF3, P1, P2: New's errors
	for _, r := range refusals() {
		for _, data := range [][]byte{nil, []byte("abc")} {
			b, e := Root(r.k, r.length, r.key, r.salt, r.personal, data)
			wantNo(t, "Root, "+r.what, b, e, r.why)
		}
	}
}

func TestPieces(t *testing.T) { // XF3: all pieces, one behind the other, are the stream; the last one has what is left
	for _, k := range kinds {
		size := sizeOf(k)
		for _, length := range []int{1, size - 1, size, size + 1, 2*size - 1, 2 * size, 5*size + 7} {
			m := told{k, length, rising(3), rising(2), rising(1), []byte("abc")}
			root := m.root(t)
			var all []byte
			for i := 0; i*size < length; i++ {
				b, e := Piece(k, length, m.salt, m.personal, root, uint64(i))
				want(t, "Piece", b, e, m.piece(t, uint64(i)))
				if len(b) != min(size, length-i*size) {
					t.Errorf("Piece %d of %d bytes: %d bytes", i, length, len(b))
				}
				all = append(all, b...)
			}
			wantRead(t, m.begun(t), length, all)
			past := uint64((length + size - 1) / size)
			for _, i := range []uint64{past, past + 1, 1 << 32, 1<<32 + 1, 1 << 58, 1 << 59, 1 << 63, math.MaxUint64} {
				b, e := Piece(k, length, m.salt, m.personal, root, i)
				wantNo(t, "a piece that isn't there", b, e, api.ErrArg)
			}
		}
	}
}

func TestLastPieces(t *testing.T) { // XF3: of the greatest length, and of one that isn't told
	for _, k := range kinds {
		size := uint64(sizeOf(k))
		for _, c := range []struct {
			length int
			last   uint64
			bytes  int
		}{
			{longestOf(k), uint64(longestOf(k)) / size, int(uint64(longestOf(k)) % size)},
			{api.Unknown, 1<<32 - 1, int(size)},
		} {
			m := told{k: k, length: c.length, data: []byte("abc")}
			root := m.root(t)
			for _, i := range []uint64{0, 1, c.last - 1, c.last} {
				b, e := Piece(k, c.length, nil, nil, root, i)
				want(t, "Piece", b, e, m.piece(t, i))
			}
			b, e := Piece(k, c.length, nil, nil, root, c.last)
			wantOK(t, e)
			if len(b) != c.bytes {
				t.Errorf("the last piece of %d: %d bytes, want %d", c.length, len(b), c.bytes)
			}
			b, e = Piece(k, c.length, nil, nil, root, c.last+1)
			wantNo(t, "the first piece past the end", b, e, api.ErrArg)
		}
	}
}

func TestPieceOfAnyRoot(t *testing.T) { // XF3: a root is any bytes, of the right number
	for _, k := range kinds {
		size := sizeOf(k)
		for n := range 2*size + 2 {
			b, e := Piece(k, 100, nil, nil, pattern(n), 0)
			if n != size {
				wantNo(t, "Piece", b, e, api.ErrArg)
			} else if len(b) != size || e != api.OK {
				t.Errorf("Piece: %x %d", b, e)
			}
		}
		b, e := Piece(k, 100, nil, nil, nil, 0)
		wantNo(t, "Piece of no root", b, e, api.ErrArg)
	}
}

func TestPieceRefuses(t *testing.T) { // XF3, P1, P2: New's errors without a key, ahead of the others
	for _, r := range refusals() {
		if r.why == api.ErrKey {
			continue
		}
		for _, root := range [][]byte{nil, rising(31), rising(32), rising(64)} {
			for _, i := range []uint64{0, math.MaxUint64} {
				b, e := Piece(r.k, r.length, r.salt, r.personal, root, i)
				wantNo(t, "Piece, "+r.what, b, e, r.why)
			}
		}
	}
}

func TestTakeAtItsEdges(t *testing.T) { // XF3: each edge of from with each edge of n
	for _, k := range kinds {
		size := uint64(sizeOf(k))
		for _, length := range []int{1, int(size), 3*int(size) + 5, longestOf(k), api.Unknown} {
			m := told{k: k, length: length, key: rising(4), data: pattern(77)}
			total := totalOf(k, length)
			for _, from := range []uint64{0, 1, size - 1, size, size + 1, total - 1, total, total + 1, 1 << 40, 1 << 63, math.MaxUint64} {
				for _, n := range []int{0, 1, int(size) - 1, int(size), int(size) + 1, 1000} {
					b, e := Take(k, length, m.key, m.data, from, n)
					if n > 0 && from >= total {
						wantNo(t, "Take past the end", b, e, api.ErrEnd)
					} else if n == 0 {
						want(t, "Take of nothing", b, e, nil)
					} else {
						want(t, "Take", b, e, m.stream(t, from, n))
					}
				}
				for _, n := range []int{-1, api.MaxTake + 1, math.MinInt, math.MaxInt, 1 << 32, -1 << 32} {
					b, e := Take(k, length, m.key, m.data, from, n)
					wantNo(t, "Take", b, e, api.ErrArg)
				}
			}
		}
	}
}

func TestTakeOfTheMost(t *testing.T) { // XF3, Limits
	for _, k := range kinds {
		m := told{k: k, length: api.Unknown, data: []byte("abc")}
		b, e := Take(k, api.Unknown, nil, m.data, 5, api.MaxTake)
		want(t, "Take", b, e, m.stream(t, 5, api.MaxTake))
		m.length = longestOf(k)
		b, e = Take(k, m.length, nil, m.data, uint64(m.length)-9, api.MaxTake)
		want(t, "Take at the end", b, e, m.stream(t, uint64(m.length)-9, 9))
	}
}

func TestTakeRefuses(t *testing.T) { // XF3, P1, P2: New's errors without salt and personal, ahead of the others
	for _, r := range refusals() {
		if r.why == api.ErrSalt || r.why == api.ErrPersonal {
			continue
		}
		for _, from := range []uint64{0, math.MaxUint64} {
			for _, n := range []int{0, 1, -1, api.MaxTake + 1} {
				b, e := Take(r.k, r.length, r.key, []byte("abc"), from, n)
				wantNo(t, "Take, "+r.what, b, e, r.why)
			}
		}
	}
}

func TestReadAndTake(t *testing.T) { // XF5: pieces of unlike lengths, one behind the other, are what Take tells from each place on
	for _, k := range kinds {
		for _, length := range []int{1500, api.Unknown} {
			m := told{k: k, length: length, key: rising(12), data: pattern(150)}
			s := m.begun(t)
			var got []byte
			for n := 0; len(got) < 1500; n = (n*7 + 5) % 131 {
				b, e := s.Read(min(n, 1500-len(got)))
				wantOK(t, e)
				right, e := Take(k, length, m.key, m.data, uint64(len(got)), len(b))
				want(t, "Read", b, e, right)
				got = append(got, b...)
				wantAt(t, s, uint64(len(got)), totalOf(k, length))
			}
			all, e := Take(k, length, m.key, m.data, 0, 1500)
			want(t, "all of it", got, e, all)
			if !bytes.Equal(all, m.stream(t, 0, 1500)) {
				t.Errorf("Take of all of it")
			}
		}
	}
}

func TestAnswersAreNew(t *testing.T) { // P4
	for _, k := range kinds {
		key, salt, root := rising(sizeOf(k)), rising(saltOf(k)), rising(sizeOf(k))
		wantOwn(t, "Root", func(a [][]byte) []byte {
			b, _ := Root(k, 100, a[0], a[1], a[2], a[3])
			return b
		}, key, salt, salt, pattern(300))
		wantOwn(t, "Piece", func(a [][]byte) []byte {
			b, _ := Piece(k, 100, a[0], a[1], a[2], 0)
			return b
		}, salt, salt, root)
		wantOwn(t, "the last piece", func(a [][]byte) []byte {
			b, _ := Piece(k, sizeOf(k)+5, a[0], a[1], a[2], 1)
			return b
		}, salt, salt, root)
		wantOwn(t, "Take", func(a [][]byte) []byte {
			b, _ := Take(k, 100, a[0], a[1], 3, 90)
			return b
		}, key, pattern(300))
	}
}
