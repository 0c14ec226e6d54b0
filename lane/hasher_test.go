package lane

import (
	"bytes"
	"math/rand"
	"testing"

	"quern/api"
)

func TestNewHasTakenNothing(t *testing.T) { // P8.4
	for _, k := range kinds {
		for _, m := range settings(k, 0) {
			h := m.hasher(t)
			wantTaken(t, h, k, 0)
			wantSum(t, "Sum", h, m.right(t))
			wantErrno(t, "Write of nothing", h.Write(nil), api.OK)
			wantErrno(t, "Write of nothing", h.Write([]byte{}), api.OK)
			wantTaken(t, h, k, 0)
			wantSum(t, "Sum", h, m.right(t))
		}
	}
}

func TestHasherAtTheEdges(t *testing.T) { // P8.4
	for _, k := range kinds {
		for _, n := range lengths(k) {
			for _, m := range settings(k, n) {
				h := m.hasher(t)
				wantErrno(t, "Write", h.Write(m.data), api.OK)
				wantTaken(t, h, k, n)
				wantSum(t, "Sum", h, m.right(t))
			}
		}
	}
}

func TestPiecesOfUnlikeLengths(t *testing.T) { // P8.4, P8.5: Taken and Sum behind each piece
	for _, k := range kinds {
		z := sizesOf(k)
		for _, step := range []int{1, 7, z.block - 1, z.block, z.block + 1, 3 * z.block, z.lanes * z.block, z.lanes*z.block + 1} {
			m := settings(k, 3*z.lanes*z.block+11)[7]
			m.digest = z.most
			h := m.hasher(t)
			taken := 0
			for n := 0; taken < len(m.data); n++ {
				piece := m.data[taken:min(taken+step+n%3, len(m.data))]
				wantErrno(t, "Write", h.Write(piece), api.OK)
				taken += len(piece)
				wantTaken(t, h, k, taken)
				if n%11 == 0 || step > 1 && n%3 == 0 {
					part := m
					part.data = m.data[:taken]
					wantSum(t, "Sum in between", h, part.right(t))
					wantSum(t, "Sum once more", h, part.right(t))
				}
			}
			wantSum(t, "Sum", h, m.right(t))
		}
	}
}

func TestSumOfEachLength(t *testing.T) { // P8.4: byte by byte, a Sum behind each
	for _, k := range kinds {
		z := sizesOf(k)
		data := pattern(z.lanes*z.block + z.block + 2)
		h, e := New(k, z.most, []byte("key"), nil, nil)
		wantOK(t, e)
		for n := range data {
			wantTaken(t, h, k, n)
			b, e := Digest(k, z.most, []byte("key"), nil, nil, data[:n])
			want(t, "Sum", h.Sum(), e, b)
			wantErrno(t, "Write", h.Write(data[n:n+1]), api.OK)
		}
	}
}

func TestReset(t *testing.T) { // P8.4: behind any message, with Sums or without; the last lane's flag stays
	for _, k := range kinds {
		for _, n := range lengths(k) {
			for _, m := range settings(k, n) {
				h := m.hasher(t)
				for range 2 {
					wantErrno(t, "Write", h.Write(pattern(77)), api.OK)
					wantErrno(t, "Reset", h.Reset(), api.OK)
					wantTaken(t, h, k, 0)
					empty := m
					empty.data = nil
					wantSum(t, "Sum behind Reset", h, empty.right(t))
					wantErrno(t, "Write", h.Write(m.data), api.OK)
					wantTaken(t, h, k, n)
					wantSum(t, "Sum", h, m.right(t))
				}
			}
		}
	}
}

func TestFork(t *testing.T) { // P8.4, P5: both go on by themselves, and Reset of one leaves the other
	for _, k := range kinds {
		for _, n := range lengths(k) {
			for _, m := range settings(k, n) {
				h := m.hasher(t)
				h.Write(m.data)
				f := h.Fork()
				wantTaken(t, f, k, n)
				wantSum(t, "Sum of the fork", f, m.right(t))
				one, two := m, m
				one.data = append(bytes.Clone(m.data), rising(200)...)
				two.data = append(bytes.Clone(m.data), pattern(90)...)
				h.Write(rising(200))
				wantTaken(t, f, k, n)
				f.Write(pattern(90))
				wantTaken(t, h, k, n+200)
				wantTaken(t, f, k, n+90)
				wantSum(t, "Sum", h, one.right(t))
				wantSum(t, "Sum of the fork", f, two.right(t))
				wantErrno(t, "Reset", h.Reset(), api.OK)
				wantTaken(t, h, k, 0)
				wantTaken(t, f, k, n+90)
				wantSum(t, "Sum of the fork", f, two.right(t))
				h.Write(m.data)
				wantErrno(t, "Reset of the fork", f.Reset(), api.OK)
				wantTaken(t, f, k, 0)
				wantSum(t, "Sum", h, m.right(t))
				f.Write(m.data)
				wantSum(t, "Sum of the fork", f, m.right(t))
			}
		}
	}
}

func TestCopiedAsAValue(t *testing.T) { // P5: a hasher is a value, too, that shares nothing with its copy
	for _, k := range kinds {
		m := settings(k, 700)[3]
		h := m.hasher(t)
		h.Write(m.data)
		c := *h
		h.Write(pattern(300))
		wantTaken(t, &c, k, 700)
		wantSum(t, "Sum of the copy", &c, m.right(t))
		h.Reset()
		wantSum(t, "Sum of the copy", &c, m.right(t))
		c.Write(pattern(300))
		wantTaken(t, h, k, 0)
	}
}

func TestNotMade(t *testing.T) { // P8.4, P1
	for _, h := range []*Hasher{nil, {}, new(Hasher)} {
		for range 2 { // a refused call makes it no hasher
			for _, b := range [][]byte{nil, {}, []byte("abc"), pattern(1000)} {
				wantErrno(t, "Write", h.Write(b), api.ErrZero)
			}
			if b := h.Sum(); len(b) != 0 {
				t.Errorf("Sum: %x", b)
			}
			wantErrno(t, "Reset", h.Reset(), api.ErrZero)
			if n, lane := h.Taken(); n != 0 || lane != 0 {
				t.Errorf("Taken: %d %d", n, lane)
			}
			if f := h.Fork(); f != nil {
				t.Errorf("Fork: %v", f)
			}
		}
	}
}

func TestHashersKeepNothingOfOthers(t *testing.T) { // P4: arguments are not changed and not kept, answers are new memory
	for _, k := range kinds {
		m := settings(k, 600)[7]
		m.digest = sizesOf(k).most
		var given [4][]byte
		var stills [4]func() bool
		for i, b := range [][]byte{m.key, m.salt, m.personal, m.data} {
			given[i], stills[i] = roomy(b)
		}
		h, e := New(k, m.digest, given[0], given[1], given[2])
		wantOK(t, e)
		wantErrno(t, "Write", h.Write(given[3]), api.OK)
		f := h.Fork()
		for i, still := range stills {
			if !still() {
				t.Errorf("argument %d has changed", i)
			}
			spoil(given[i])
		}
		for _, one := range []*Hasher{h, f} {
			for range 3 {
				b := one.Sum()
				want(t, "Sum", b, api.OK, m.right(t))
				spoil(b)
			}
			wantErrno(t, "Reset", one.Reset(), api.OK)
			wantErrno(t, "Write", one.Write(m.data), api.OK)
			wantSum(t, "Sum behind Reset", one, m.right(t))
		}
	}
}

func TestCallsByChance(t *testing.T) { // P8.4, P8.5, G3: every order of calls, on hashers of both kinds and forks of them
	r := rand.New(rand.NewSource(8))
	for range 150 {
		var hashers [3]*Hasher
		var models [3]told
		for i := range hashers {
			k := kinds[r.Intn(2)]
			z := sizesOf(k)
			models[i] = told{k: k, digest: 1 + r.Intn(z.most), key: pattern(r.Intn(z.most + 1)), salt: pattern(r.Intn(z.salt + 1)), personal: rising(r.Intn(z.salt + 1))}
			hashers[i] = models[i].hasher(t)
		}
		for range 40 {
			i, j := r.Intn(3), r.Intn(3)
			h, m := hashers[i], &models[i]
			switch r.Intn(8) {
			case 0, 1, 2, 3:
				b := pattern(r.Intn(400))
				wantErrno(t, "Write", h.Write(b), api.OK)
				m.data = append(bytes.Clone(m.data), b...)
			case 4, 5:
				wantSum(t, "Sum", h, m.right(t))
			case 6:
				hashers[i], models[i] = hashers[j].Fork(), models[j]
			case 7:
				if r.Intn(3) == 0 {
					wantErrno(t, "Reset", h.Reset(), api.OK)
					m.data = nil
				}
			}
			wantTaken(t, hashers[i], models[i].k, len(models[i].data))
		}
		for i := range hashers {
			wantSum(t, "Sum at the end", hashers[i], models[i].right(t))
		}
		if t.Failed() {
			return
		}
	}
}
