package xof

import (
	"bytes"
	"math"
	"math/rand"
	"testing"

	"quern/api"
)

func TestWriteInPieces(t *testing.T) { // XF2: how the message is cut has no part in it
	for _, k := range kinds {
		m := told{k: k, length: 100, key: rising(5), salt: rising(3), personal: rising(4), data: pattern(400)}
		right := m.stream(t, 0, 100)
		for _, step := range []int{1, 3, 63, 64, 65, 127, 128, 129, 399, 400} {
			s, e := New(k, 100, m.key, m.salt, m.personal)
			wantOK(t, e)
			for rest := m.data; len(rest) > 0; rest = rest[min(step, len(rest)):] {
				wantErrno(t, "Write", s.Write(rest[:min(step, len(rest))]), api.OK)
				wantErrno(t, "Write of nothing", s.Write(nil), api.OK)
			}
			wantAt(t, s, 0, 100)
			wantRead(t, s, 100, right)
		}
	}
}

func TestNothingWritten(t *testing.T) { // XF2: the message may be empty
	for _, k := range kinds {
		for _, key := range [][]byte{nil, rising(1), rising(sizeOf(k))} {
			m := told{k: k, length: 90, key: key}
			s, e := New(k, 90, key, nil, nil)
			wantOK(t, e)
			wantRead(t, s, 90, m.stream(t, 0, 90))
		}
	}
}

func TestWriteIsRefused(t *testing.T) { // XF2: behind whatever gives, also nothing at all
	for _, k := range kinds {
		m := told{k: k, length: 90, data: []byte("abc")}
		for what, give := range map[string]func(s *Stream){
			"Read(0)": func(s *Stream) { s.Read(0) },
			"Read(1)": func(s *Stream) { s.Read(1) },
			"Skip(0)": func(s *Stream) { s.Skip(0) },
			"Skip(1)": func(s *Stream) { s.Skip(1) },
			"the end": func(s *Stream) { s.Skip(90) },
		} {
			s := m.begun(t)
			give(s)
			at := s.At()
			for _, b := range [][]byte{nil, {}, []byte("d")} {
				wantErrno(t, "Write behind "+what, s.Write(b), api.ErrState)
			}
			wantAt(t, s, at, 90)
			if at < 90 {
				wantRead(t, s, 90, m.stream(t, at, 90))
			}
		}
	}
}

func TestReadIsRefused(t *testing.T) { // XF2, P2: ErrArg, and the stream takes as it did, or gives as it did
	for _, k := range kinds {
		m := told{k: k, length: 90, data: []byte("abcdef")}
		s, e := New(k, 90, nil, nil, nil)
		wantOK(t, e)
		for i, n := range []int{-1, api.MaxTake + 1, 1 << 32, math.MinInt, math.MaxInt, -1 << 32} {
			b, e := s.Read(n)
			wantNo(t, "Read", b, e, api.ErrArg)
			wantAt(t, s, 0, 90)
			wantErrno(t, "Write", s.Write(m.data[i:i+1]), api.OK)
		}
		wantRead(t, s, 10, m.stream(t, 0, 10))
		b, e := s.Read(-1)
		wantNo(t, "Read(-1)", b, e, api.ErrArg)
		b, e = s.Read(api.MaxTake + 1)
		wantNo(t, "Read of too many", b, e, api.ErrArg)
		wantAt(t, s, 10, 90)
		wantRead(t, s, 100, m.stream(t, 10, 80))
		b, e = s.Read(-1) // ahead of ErrEnd
		wantNo(t, "Read(-1) at the end", b, e, api.ErrArg)
		b, e = s.Read(api.MaxTake + 1)
		wantNo(t, "Read of too many at the end", b, e, api.ErrArg)
		wantEnd(t, s)
	}
}

func TestReadOfEachNumber(t *testing.T) { // XF2: from the beginning, and from within a piece
	for _, k := range kinds {
		size := sizeOf(k)
		for _, length := range []int{api.Unknown, 2*size + 3} {
			m := told{k: k, length: length, key: rising(7), data: pattern(10)}
			total := totalOf(k, length)
			for _, first := range []int{0, 1, size - 1, size, size + 1} {
				for _, n := range []int{0, 1, size - 1, size, size + 1, 2 * size, 3 * size} {
					s := m.begun(t)
					wantRead(t, s, first, m.stream(t, 0, first))
					wantAt(t, s, uint64(first), total)
					right := m.stream(t, uint64(first), n)
					wantRead(t, s, n, right)
					wantAt(t, s, uint64(first+len(right)), total)
				}
			}
		}
	}
}

func TestReadOfTheMost(t *testing.T) { // XF2, Limits
	for _, k := range kinds {
		m := told{k: k, length: api.Unknown, data: []byte("abc")}
		s := m.begun(t)
		b, e := s.Read(api.MaxTake)
		want(t, "Read", b, e, m.stream(t, 0, api.MaxTake))
		wantAt(t, s, api.MaxTake, totalOf(k, api.Unknown))
	}
	m := told{k: api.Big, length: api.MaxTake + 5, data: []byte("abc")}
	s := m.begun(t)
	wantRead(t, s, api.MaxTake, m.stream(t, 0, api.MaxTake))
	wantRead(t, s, api.MaxTake, m.stream(t, api.MaxTake, 5))
	wantEnd(t, s)
	m = told{k: api.Small, length: longestOf(api.Small), data: []byte("abc")} // all that can be told, in one Read
	s = m.begun(t)
	wantRead(t, s, api.MaxTake, m.stream(t, 0, longestOf(api.Small)))
	wantEnd(t, s)
}

func TestReadToTheEnd(t *testing.T) { // XF2: as many as are left, then ErrEnd
	for _, k := range kinds {
		size := sizeOf(k)
		for _, length := range []int{1, 2, size - 1, size, size + 1, 2*size - 1, 2 * size, 2*size + 1} {
			m := told{k: k, length: length, salt: rising(2), data: []byte("abc")}
			all := m.stream(t, 0, length)
			for _, step := range []int{1, 7, size - 1, size, size + 1, length, length + 1, api.MaxTake} {
				s := m.begun(t)
				var got []byte
				for len(got) < length {
					b, e := s.Read(step)
					wantOK(t, e)
					if len(b) != min(step, length-len(got)) {
						t.Fatalf("Read(%d) with %d left: %d bytes", step, length-len(got), len(b))
					}
					got = append(got, b...)
					wantAt(t, s, uint64(len(got)), uint64(length))
				}
				want(t, "all of it", got, api.OK, all)
				wantEnd(t, s)
			}
		}
	}
}

func TestSkipOfNothing(t *testing.T) { // XF2: it ends the message, and nothing else
	for _, k := range kinds {
		m := told{k: k, length: 100, data: []byte("abc")}
		s := m.begun(t)
		wantSkip(t, s, 0, 0)
		wantAt(t, s, 0, 100)
		wantRead(t, s, 10, m.stream(t, 0, 10))
		wantSkip(t, s, 0, 0)
		wantAt(t, s, 10, 100)
		wantRead(t, s, 100, m.stream(t, 10, 90))
		wantSkip(t, s, 0, 0)
		wantEnd(t, s)
	}
}

func TestSkipAndRead(t *testing.T) { // XF2, XF5: within a piece, to its end, over one, over many; behind a Read within a piece too
	for _, k := range kinds {
		size := sizeOf(k)
		steps := []int{0, 1, 2, size - 2, size - 1, size, size + 1, 2*size - 1, 2 * size, 2*size + 1, 9*size + 5}
		for _, length := range []int{api.Unknown, 20*size + 3, 20 * size} {
			m := told{k: k, length: length, personal: rising(1), data: []byte("abc")}
			total := totalOf(k, length)
			all := m.stream(t, 0, 20*size)
			for _, first := range steps {
				for _, n := range steps {
					s := m.begun(t)
					wantRead(t, s, first, all[:first])
					wantSkip(t, s, uint64(n), uint64(n))
					wantAt(t, s, uint64(first+n), total)
					wantRead(t, s, 3, m.stream(t, uint64(first+n), 3))
					wantSkip(t, s, 1, 1)
					wantAt(t, s, uint64(first+n+4), total)
					wantRead(t, s, size, m.stream(t, uint64(first+n+4), size))
				}
			}
		}
	}
}

func TestSkipPastTheEnd(t *testing.T) { // XF2: as many as are left, however many are asked for
	for _, k := range kinds {
		size := uint64(sizeOf(k))
		for _, length := range []int{1, int(size), int(size) + 1, 1000, longestOf(k), api.Unknown} {
			total := totalOf(k, length)
			m := told{k: k, length: length, data: []byte("abc")}
			for _, n := range []uint64{total, total + 1, total + size, 1 << 40, 1 << 63, math.MaxUint64} {
				s := m.begun(t)
				wantSkip(t, s, n, total)
				wantAt(t, s, total, total)
				wantEnd(t, s)
				s = m.begun(t)
				wantRead(t, s, 1, m.stream(t, 0, 1))
				if total > 1 {
					wantSkip(t, s, n, total-1)
				}
				wantEnd(t, s)
			}
		}
	}
}

func TestFarOut(t *testing.T) { // XF2, XF5: no Skip takes longer for being far
	for _, k := range kinds {
		size := uint64(sizeOf(k))
		for _, length := range []int{longestOf(k), api.Unknown} {
			total := totalOf(k, length)
			m := told{k: k, length: length, data: []byte("abc")}
			places := []uint64{total / 2, total/2 + 1, total - 1, total - 2, total - size, total - size - 1, total - 3*size + 1}
			if length == api.Unknown {
				places = append(places, 1<<32-1, 1<<32, 1<<32+1, size<<16, size<<16-1, size<<31, size<<31-1, size<<32-1)
			}
			for _, at := range places {
				s := m.begun(t)
				wantSkip(t, s, at, at)
				wantAt(t, s, at, total)
				right := m.stream(t, at, 2*int(size)+2)
				wantRead(t, s, 2*int(size)+2, right)
				wantAt(t, s, at+uint64(len(right)), total)
				if s.Left() == 0 {
					wantEnd(t, s)
				}
			}
		}
	}
}

func TestCopyThatTakes(t *testing.T) { // XF2, P5: each goes on by itself
	for _, k := range kinds {
		m := told{k: k, length: 200, key: rising(9), salt: rising(2), personal: rising(3), data: []byte("ab")}
		s := m.begun(t)
		c := s.Copy()
		wantErrno(t, "Write to the copy", c.Write([]byte("X")), api.OK)
		wantErrno(t, "Write", s.Write([]byte("c")), api.OK)
		d := c.Copy()
		wantErrno(t, "Write to the copy's copy", d.Write([]byte("Y")), api.OK)
		one, other, third := m, m, m
		one.data, other.data, third.data = []byte("abc"), []byte("abX"), []byte("abXY")
		wantRead(t, s, 50, one.stream(t, 0, 50))
		wantErrno(t, "Write to the copy, behind a Read of the other", c.Write(nil), api.OK)
		wantAt(t, c, 0, 200)
		wantRead(t, c, 70, other.stream(t, 0, 70))
		wantErrno(t, "Write to the copy's copy", d.Write(nil), api.OK)
		wantRead(t, d, 200, third.stream(t, 0, 200))
		wantRead(t, s, 150, one.stream(t, 50, 150))
		wantRead(t, c, 150, other.stream(t, 70, 130))
	}
}

func TestCopyThatGives(t *testing.T) { // XF2, P5: at each place, within a piece and at its end
	for _, k := range kinds {
		size := sizeOf(k)
		m := told{k: k, length: 3*size + 5, key: rising(9), data: []byte("abc")}
		total := uint64(m.length)
		for at := range m.length + 1 {
			s := m.begun(t)
			wantRead(t, s, at, m.stream(t, 0, at))
			c := s.Copy()
			wantAt(t, c, uint64(at), total)
			wantErrno(t, "Write to the copy", c.Write(nil), api.ErrState)
			if at == m.length {
				wantEnd(t, c)
				continue
			}
			right := m.stream(t, uint64(at), m.length)
			half := len(right) / 2
			wantRead(t, c, half, right[:half])
			wantSkip(t, s, uint64(len(right)), uint64(len(right)))
			wantEnd(t, s)
			wantRead(t, c, m.length, right[half:])
			wantEnd(t, c)
		}
	}
}

func TestResetOfOneLeavesTheOther(t *testing.T) { // XF2, P5
	for _, k := range kinds {
		m := told{k: k, length: 100, key: rising(3), data: []byte("abc")}
		for _, at := range []int{-1, 0, 10} { // -1: both take
			s := m.begun(t)
			if at >= 0 {
				wantRead(t, s, at, m.stream(t, 0, at))
			}
			c := s.Copy()
			wantErrno(t, "Reset", c.Reset(), api.OK)
			wantErrno(t, "Write", c.Write([]byte("x")), api.OK)
			d := s.Copy()
			wantErrno(t, "Reset", s.Reset(), api.OK)
			wantErrno(t, "Write", s.Write([]byte("yz")), api.OK)
			wantRead(t, d, 100, m.stream(t, uint64(max(at, 0)), 100))
			x, yz := m, m
			x.data, yz.data = []byte("x"), []byte("yz")
			wantRead(t, c, 100, x.stream(t, 0, 100))
			wantRead(t, s, 100, yz.stream(t, 0, 100))
		}
	}
}

func TestReset(t *testing.T) { // XF2: in both states, behind nothing, within a piece, at the end
	for _, k := range kinds {
		for _, length := range []int{api.Unknown, 100} {
			m := told{k: k, length: length, key: rising(3), salt: rising(4), personal: rising(5), data: pattern(200)}
			total := totalOf(k, length)
			s := m.begun(t)
			for what, ahead := range map[string]func(){
				"it takes":            func() {},
				"it gives":            func() { s.Read(0) },
				"it gave":             func() { s.Read(33) },
				"it let go":           func() { s.Skip(70) },
				"it ended":            func() { s.Skip(math.MaxUint64) },
				"it refused to write": func() { s.Read(1); s.Write([]byte("x")) },
				"it was reset":        func() { s.Reset() },
			} {
				ahead()
				wantErrno(t, "Reset, "+what, s.Reset(), api.OK)
				wantAt(t, s, 0, total)
				wantErrno(t, "Write, "+what, s.Write(m.data), api.OK)
				wantRead(t, s.Copy(), 100, m.stream(t, 0, 100))
			}
			wantErrno(t, "Reset", s.Reset(), api.OK)
			empty := m
			empty.data = nil
			wantRead(t, s, 100, empty.stream(t, 0, 100))
		}
	}
}

func TestStreamsKeepNothingOfOthers(t *testing.T) { // P4: arguments are not changed and not kept, answers are new memory
	for _, k := range kinds {
		m := told{k: k, length: 300, key: rising(sizeOf(k)), salt: rising(saltOf(k)), personal: rising(saltOf(k)), data: pattern(sizeOf(k))}
		var given [4][]byte
		var stills [4]func() bool
		for i, b := range [][]byte{m.key, m.salt, m.personal, m.data} {
			given[i], stills[i] = roomy(b)
		}
		s, e := New(k, 300, given[0], given[1], given[2])
		wantOK(t, e)
		wantErrno(t, "Write", s.Write(given[3]), api.OK)
		c := s.Copy()
		for i, still := range stills {
			if !still() {
				t.Errorf("argument %d has changed", i)
			}
			spoil(given[i])
		}
		for _, one := range []*Stream{s, c} {
			for at := 0; at < 300; at += 50 {
				b, e := one.Read(50)
				want(t, "Read", b, e, m.stream(t, uint64(at), 50))
				spoil(b)
			}
			wantErrno(t, "Reset", one.Reset(), api.OK)
			wantErrno(t, "Write", one.Write(m.data), api.OK)
			b, e := one.Read(100)
			want(t, "Read", b, e, m.stream(t, 0, 100))
			spoil(b)
		}
	}
}

// model is a stream as the chapter tells it, with all of its bytes laid out.
type model struct {
	of    told
	all   []byte
	at    int
	gives bool
}

func (m *model) give(t *testing.T) {
	if !m.gives {
		m.gives, m.all = true, m.of.stream(t, 0, m.of.length)
	}
}

// step makes one call on a stream and on its model, by chance, and holds the two against each other.
func (m *model) step(t *testing.T, s *Stream, r *rand.Rand) {
	t.Helper()
	switch r.Intn(6) {
	case 0:
		b := pattern(r.Intn(90))
		e := s.Write(b)
		if m.gives {
			wantErrno(t, "Write", e, api.ErrState)
		} else {
			wantErrno(t, "Write", e, api.OK)
			m.of.data = append(bytes.Clone(m.of.data), b...)
		}
	case 1, 2:
		n := r.Intn(100) - 2
		b, e := s.Read(n)
		if n < 0 {
			wantNo(t, "Read", b, e, api.ErrArg)
			return
		}
		m.give(t)
		if n > 0 && m.at == len(m.all) {
			wantNo(t, "Read", b, e, api.ErrEnd)
			return
		}
		to := min(m.at+n, len(m.all))
		want(t, "Read", b, e, m.all[m.at:to])
		m.at = to
	case 3:
		n := r.Intn(100)
		got, e := s.Skip(uint64(n))
		m.give(t)
		if n > 0 && m.at == len(m.all) {
			wantErrno(t, "Skip", e, api.ErrEnd)
			return
		}
		to := min(m.at+n, len(m.all))
		if int(got) != to-m.at || e != api.OK {
			t.Errorf("Skip(%d): %d %d, want %d", n, got, e, to-m.at)
		}
		m.at = to
	case 4:
		wantAt(t, s, uint64(m.at), uint64(m.of.length))
	case 5:
		if r.Intn(4) == 0 {
			wantErrno(t, "Reset", s.Reset(), api.OK)
			m.of.data, m.gives, m.at, m.all = nil, false, 0, nil
		}
	}
}

func TestCallsByChance(t *testing.T) { // XF2, XF5, G3: every order of calls, on two streams and copies of them
	r := rand.New(rand.NewSource(7))
	for range 300 {
		k := kinds[r.Intn(2)]
		var streams [3]*Stream
		var models [3]model
		for i := range streams {
			m := told{k: k, length: 1 + r.Intn(400), key: pattern(r.Intn(20)), salt: pattern(r.Intn(9))}
			models[i] = model{of: m}
			streams[i] = m.begun(t)
		}
		for range 60 {
			i, j := r.Intn(3), r.Intn(3)
			if r.Intn(10) == 0 {
				streams[i], models[i] = streams[j].Copy(), models[j]
			}
			models[i].step(t, streams[i], r)
		}
		if t.Failed() {
			return
		}
	}
}
