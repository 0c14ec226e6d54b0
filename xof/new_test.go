package xof

import (
	"math"
	"testing"

	"quern/api"
)

func TestExamples(t *testing.T) { // the chapter's examples
	_, e := New(api.Big, 0, nil, nil, nil)
	wantErrno(t, "New(Big, 0)", e, api.ErrArg)
	_, e = New(api.Small, 65535, nil, nil, nil)
	wantErrno(t, "New(Small, 65535)", e, api.ErrArg)
	s, e := New(api.Big, -1, nil, nil, nil)
	wantOK(t, e)
	if s.Left() != 274877906944 {
		t.Errorf("Left of an unknown length: %d", s.Left())
	}
	s, e = New(api.Big, 1, nil, nil, nil)
	wantOK(t, e)
	b, e := s.Read(2)
	if len(b) != 1 || e != api.OK {
		t.Errorf("Read(2): %x %d", b, e)
	}
	b, e = s.Read(1)
	wantNo(t, "Read(1)", b, e, api.ErrEnd)
	wantRead(t, s, 0, nil)
	wantErrno(t, "Write", s.Write([]byte("x")), api.ErrState)
}

func TestLengthsThatMayBe(t *testing.T) { // XF1
	for _, k := range kinds {
		for _, length := range []int{api.Unknown, 1, 2, sizeOf(k) - 1, sizeOf(k), sizeOf(k) + 1, 255, 256, longestOf(k) - 1, longestOf(k)} {
			s, e := New(k, length, nil, nil, nil)
			wantOK(t, e)
			wantAt(t, s, 0, totalOf(k, length))
			wantErrno(t, "Write", s.Write([]byte("abc")), api.OK)
			wantAt(t, s, 0, totalOf(k, length))
			m := told{k: k, length: length, data: []byte("abc")}
			wantRead(t, s, 100, m.stream(t, 0, 100))
		}
	}
}

func TestTotals(t *testing.T) { // XF1: 2^32 whole pieces, of both kinds
	for _, c := range []struct {
		k      api.Kind
		length int
		right  uint64
	}{
		{api.Big, api.Unknown, 1 << 38}, {api.Small, api.Unknown, 1 << 37},
		{api.Big, 1, 1}, {api.Small, 1, 1},
		{api.Big, 4294967294, 4294967294}, {api.Small, 65534, 65534},
	} {
		s, e := New(c.k, c.length, nil, nil, nil)
		wantOK(t, e)
		if s.Left() != c.right {
			t.Errorf("New(%d, %d): Left %d, want %d", c.k, c.length, s.Left(), c.right)
		}
	}
}

// refusal is what New refuses, and how.
type refusal struct {
	what                string
	k                   api.Kind
	length              int
	key, salt, personal []byte
	why                 api.Errno
}

// refusals are each error of New, alone and ahead of all behind it.
func refusals() []refusal {
	var list []refusal
	for _, k := range noKinds {
		for _, length := range []int{1, api.Unknown, 0} {
			list = append(list, refusal{"kind", k, length, nil, nil, nil, api.ErrArg}, refusal{"kind and all", k, length, rising(65), rising(17), rising(17), api.ErrArg})
		}
	}
	for _, k := range kinds {
		key, salt := rising(sizeOf(k)+1), rising(saltOf(k)+1)
		for _, length := range badLengths(k) {
			list = append(list, refusal{"length", k, length, nil, nil, nil, api.ErrArg}, refusal{"length and all", k, length, key, salt, salt, api.ErrArg})
		}
		for _, length := range []int{1, longestOf(k), api.Unknown} {
			list = append(list,
				refusal{"key", k, length, key, nil, nil, api.ErrKey},
				refusal{"key and all behind", k, length, key, salt, salt, api.ErrKey},
				refusal{"a key that is one byte longer than a byte can tell", k, length, rising(256), nil, nil, api.ErrKey},
				refusal{"salt", k, length, key[1:], salt, nil, api.ErrSalt},
				refusal{"salt and personal", k, length, nil, salt, salt, api.ErrSalt},
				refusal{"a salt of noughts", k, length, nil, make([]byte, len(salt)), nil, api.ErrSalt},
				refusal{"personal", k, length, key[1:], salt[1:], salt, api.ErrPersonal},
				refusal{"a personal of noughts", k, length, nil, nil, make([]byte, len(salt)), api.ErrPersonal},
			)
		}
	}
	return list
}

func TestNewRefuses(t *testing.T) { // XF1, P1, P2
	for _, r := range refusals() {
		s, e := New(r.k, r.length, r.key, r.salt, r.personal)
		if s != nil || e != r.why {
			t.Errorf("New, %s: kind %d, length %d: %v %d, want error %d", r.what, r.k, r.length, s, e, r.why)
		}
	}
}

func TestMostOfAll(t *testing.T) { // XF1: keys, salts and personals at their most, and each alone
	for _, k := range kinds {
		key, salt, personal := rising(sizeOf(k)), rising(saltOf(k)), pattern(saltOf(k))
		for _, m := range []told{
			{k: k, key: key}, {k: k, salt: salt}, {k: k, personal: personal}, {k: k, key: key, salt: salt, personal: personal},
			{k: k, key: key[:1]}, {k: k, salt: salt[:1]}, {k: k, personal: personal[:1]},
		} {
			for _, length := range []int{api.Unknown, 200} {
				m.length, m.data = length, pattern(200)
				wantRead(t, m.begun(t), 300, m.stream(t, 0, 300))
			}
		}
	}
}

func TestNilAndEmpty(t *testing.T) { // P3
	none := []byte{}
	for _, k := range kinds {
		m := told{k: k, length: 70}
		right := m.stream(t, 0, 70)
		s, e := New(k, 70, none, none, none)
		wantOK(t, e)
		wantErrno(t, "Write", s.Write(none), api.OK)
		wantErrno(t, "Write", s.Write(nil), api.OK)
		wantRead(t, s, 70, right)
		b, e := Root(k, 70, none, none, none, none)
		want(t, "Root", b, e, m.root(t))
		b, e = Piece(k, 70, none, none, m.root(t), 0)
		want(t, "Piece", b, e, right[:sizeOf(k)])
		b, e = Take(k, 70, none, none, 0, 70)
		want(t, "Take", b, e, right)
		// Noughts behind a salt and a personal are worth nothing, of a key they are.
		s, e = New(k, 70, nil, make([]byte, saltOf(k)), make([]byte, saltOf(k)))
		wantOK(t, e)
		wantRead(t, s, 70, right)
		m.key = []byte{0}
		wantRead(t, m.begun(t), 70, m.stream(t, 0, 70))
	}
}

func TestNotMade(t *testing.T) { // XF4, P1
	for _, s := range []*Stream{nil, {}, new(Stream)} {
		for range 2 { // a refused call makes it no stream
			for _, b := range [][]byte{nil, {}, []byte("abc")} {
				wantErrno(t, "Write", s.Write(b), api.ErrZero)
			}
			for _, n := range []int{0, 1, -1, api.MaxTake, api.MaxTake + 1, math.MinInt, math.MaxInt} {
				b, e := s.Read(n)
				wantNo(t, "Read", b, e, api.ErrZero)
			}
			for _, n := range []uint64{0, 1, math.MaxUint64} {
				if got, e := s.Skip(n); got != 0 || e != api.ErrZero {
					t.Errorf("Skip: %d %d", got, e)
				}
			}
			if s.At() != 0 || s.Left() != 0 {
				t.Errorf("At %d, Left %d", s.At(), s.Left())
			}
			if c := s.Copy(); c != nil {
				t.Errorf("Copy: %v", c)
			}
			wantErrno(t, "Reset", s.Reset(), api.ErrZero)
		}
	}
}
