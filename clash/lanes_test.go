package clash

import (
	"bytes"
	"fmt"
	"math"
	"testing"

	"quern/api"
	"quern/lane"
	"quern/node"
)

// setting is how messages are hashed over lanes.
type setting struct {
	k                   api.Kind
	digest              int
	key, salt, personal []byte
}

// settings are digests of one byte, with each of key, salt and personal alone, all of them and none.
func settings(k api.Kind) []setting {
	z := sizesOf(k)
	return []setting{
		{k: k, digest: 1},
		{k: k, digest: 1, key: rising(1)},
		{k: k, digest: 1, key: rising(z.most)},
		{k: k, digest: 1, salt: rising(z.salt)},
		{k: k, digest: 1, personal: pattern(3)},
		{k: k, digest: 1, key: pattern(9), salt: rising(2), personal: pattern(z.salt)},
	}
}

// build lays the nodes down by chapter 8's words: a message is dealt out byte by byte.
func (s setting) build(t testing.TB, data []byte) built {
	t.Helper()
	z := sizesOf(s.k)
	inner := z.most
	like := api.Tree{Kind: s.k, Digest: s.digest, Fanout: z.lanes, Depth: 2, Inner: inner, Key: s.key, Salt: s.salt, Personal: s.personal}
	lanes := make([]api.Call, z.lanes)
	for i := range lanes {
		lanes[i] = api.Call{Kind: s.k, Block: block(like, 0, i), Key: s.key, Last: i == z.lanes-1, Out: inner}
	}
	for i, c := range data {
		at := i / z.block % z.lanes
		lanes[at].Data = append(lanes[at].Data, c)
	}
	var b built
	b.lay(t, lanes)
	b.lay(t, []api.Call{{Kind: s.k, Block: block(like, 1, 0), Last: true, Out: s.digest, Data: bytes.Join(b.outputs[0], nil)}})
	return b
}

func (s setting) lanes(a, b []byte) (api.Call, api.Call, api.Errno) {
	return Lanes(s.k, s.digest, s.key, s.salt, s.personal, a, b)
}

// wantNoLanes asks for the clash of two messages, both ways round, and wants this error.
func (s setting) wantNoLanes(t testing.TB, what string, a, b []byte, why api.Errno) {
	t.Helper()
	x, y, e := s.lanes(a, b)
	wantNoCalls(t, "Lanes, "+what, x, y, e, why)
	x, y, e = s.lanes(b, a)
	wantNoCalls(t, "Lanes, exchanged, "+what, x, y, e, why)
}

// wantLanes asks for the clash of two messages with one digest, both ways round, and holds it against the nodes that are built by the words.
func (s setting) wantLanes(t testing.TB, what string, a, b []byte) {
	t.Helper()
	first, second := rightPair(t, s.build(t, a), s.build(t, b))
	x, y, e := s.lanes(a, b)
	wantCalls(t, what, x, y, e, first.call, second.call)
	wantClash(t, what, x, y)
	y, x, e = s.lanes(b, a)
	wantCalls(t, what+", exchanged", x, y, e, first.call, second.call)
}

// wrongSetting is what Lanes refuses, and how.
type wrongSetting struct {
	what string
	setting
	why api.Errno
}

// wrongSettings are each error of the root's parameters, alone and ahead of all behind it.
func wrongSettings() []wrongSetting {
	var list []wrongSetting
	for _, k := range noKinds {
		list = append(list,
			wrongSetting{"kind", setting{k: k, digest: 1}, api.ErrArg},
			wrongSetting{"kind and all", setting{k, 0, rising(65), rising(17), rising(17)}, api.ErrArg})
	}
	for _, k := range kinds {
		z := sizesOf(k)
		key, salt := rising(z.most+1), rising(z.salt+1)
		for _, digest := range []int{0, -1, z.most + 1, 256, 257, math.MinInt, math.MaxInt} {
			list = append(list,
				wrongSetting{"digest", setting{k: k, digest: digest}, api.ErrDigest},
				wrongSetting{"digest and all behind", setting{k, digest, key, salt, salt}, api.ErrDigest})
		}
		list = append(list,
			wrongSetting{"key", setting{k: k, digest: 1, key: key}, api.ErrKey},
			wrongSetting{"key and all behind", setting{k, 1, key, salt, salt}, api.ErrKey},
			wrongSetting{"salt", setting{k, 1, key[1:], salt, nil}, api.ErrSalt},
			wrongSetting{"salt and personal", setting{k, 1, nil, salt, salt}, api.ErrSalt},
			wrongSetting{"personal", setting{k, 1, key[1:], salt[1:], salt}, api.ErrPersonal},
			wrongSetting{"a personal of noughts", setting{k, 1, nil, nil, make([]byte, len(salt))}, api.ErrPersonal})
	}
	return list
}

func TestLanesRefuse(t *testing.T) { // P12.3, P2: lane.Digest's error ahead of ErrSame and ErrNone
	for _, w := range wrongSettings() {
		if _, e := lane.Digest(w.k, w.digest, w.key, w.salt, w.personal, nil); e != w.why {
			t.Errorf("lane.Digest, %s: error %d, want %d", w.what, e, w.why)
		}
		for _, a := range [][]byte{nil, {}, []byte("1"), pattern(1000)} {
			for _, b := range [][]byte{nil, []byte("1"), pattern(600)} {
				w.wantNoLanes(t, w.what, a, b, w.why)
			}
		}
	}
}

func TestLanesOfTheSame(t *testing.T) { // P12.3, P3: ErrSame
	for _, k := range kinds {
		for _, s := range settings(k) {
			for _, n := range []int{0, 1, sizesOf(k).block, 5000} {
				a := pattern(n)
				b, _ := roomy(a)
				s.wantNoLanes(t, "the same memory", a, a, api.ErrSame)
				s.wantNoLanes(t, "the same bytes", a, b, api.ErrSame)
			}
			s.wantNoLanes(t, "nil and empty", nil, []byte{}, api.ErrSame)
			s.wantNoLanes(t, "nil and nil", nil, nil, api.ErrSame)
		}
	}
}

// laneMessages are short ones, and such as reach into several lanes and rounds.
func laneMessages(k api.Kind) [][]byte {
	z := sizesOf(k)
	var list [][]byte
	for i := range 120 {
		m := Message(i)
		switch i % 4 {
		case 1:
			m = append(m, pattern(z.block*(i%z.lanes))...)
		case 2:
			m = append(pattern(z.block*z.lanes-1), m...)
		case 3:
			m = append(pattern(i), m...)
		}
		list = append(list, m)
	}
	return append(list, nil)
}

func TestLanes(t *testing.T) { // P12.3, P12.6, G4: unlike messages with one digest, and with two
	for _, k := range kinds {
		for i, s := range settings(k) {
			list := laneMessages(k)
			var digests [][]byte
			for _, m := range list {
				digests = append(digests, s.build(t, m).digest())
			}
			clashes := 0
			for x, a := range list {
				for y, b := range list[:x] {
					what := fmt.Sprintf("kind %d, setting %d, messages %d and %d", k, i, x, y)
					switch {
					case bytes.Equal(digests[x], digests[y]):
						s.wantLanes(t, what, a, b)
						clashes++
					case (x+y)%13 == 0:
						s.wantNoLanes(t, what, a, b, api.ErrNone)
					}
				}
			}
			if clashes < 5 {
				t.Errorf("kind %d, setting %d: %d clashes", k, i, clashes)
			}
		}
		whole := setting{k: k, digest: sizesOf(k).most}
		whole.wantNoLanes(t, "whole digests", []byte("a"), []byte("b"), api.ErrNone)
		whole.wantNoLanes(t, "whole digests", nil, []byte{0}, api.ErrNone)
		whole.wantNoLanes(t, "whole digests", pattern(1000), pattern(1001), api.ErrNone)
	}
}

func TestRowsOfLanes(t *testing.T) { // P12.3: the lanes in order, and the root over them
	for _, k := range kinds {
		for _, s := range settings(k) {
			for _, m := range laneMessages(k) {
				right := s.build(t, m)
				rows := byLanes{s.k, s.digest, s.key, s.salt, s.personal}.rows(m)
				if len(rows) != 2 || !sameRow(rows[0], right.calls[0]) || !sameRow(rows[1], right.calls[1]) {
					t.Fatalf("kind %d: %v, want %v", k, rows, right.calls)
				}
			}
		}
	}
}

func sameRow(a, b []api.Call) bool {
	same := len(a) == len(b)
	for i := range min(len(a), len(b)) {
		same = same && sameCall(a[i], b[i])
	}
	return same
}

// weakLanes hashes over lanes each of which gives one byte alone. Of 2bp and 2sp themselves nobody has two unlike messages whose roots' calls are alike: all lanes would have to give the same whole outputs.
type weakLanes struct {
	byLanes
}

func (h weakLanes) rows(data []byte) [][]api.Call {
	rows := h.byLanes.rows(data)
	rows[1][0].Data = nil
	for i := range rows[0] {
		rows[0][i].Out = 1
		out, _ := node.Call(rows[0][i])
		rows[1][0].Data = append(rows[1][0].Data, out...)
	}
	return rows
}

func (h weakLanes) digest(data []byte) []byte {
	return sure(node.Call(h.rows(data)[1][0]))
}

func TestLanesBelowTheRoot(t *testing.T) { // P12.3: where the roots' calls are alike, the first unlike lanes, rising
	for _, k := range kinds {
		z := sizesOf(k)
		h := weakLanes{byLanes{kind: k, size: 2, key: rising(4)}}
		data := pattern(z.block*z.lanes*2 + 5)
		twins := data
		for at := z.lanes - 1; at >= 0; at-- {
			twins = laneTwin(t, h, twins, at)
			p, e := find(h, data, twins)
			wantCalls(t, "lanes", p.first, p.second, e, h.rows(data)[0][at], h.rows(twins)[0][at])
			if p.row != 0 || p.at != uint64(at) {
				t.Errorf("kind %d: row %d, place %d, want 0 and %d", k, p.row, p.at, at)
			}
			wantClash(t, "lanes", p.first, p.second)
		}
	}
}

// laneTwin tells a message that differs in the bytes of one lane, which gives the same.
func laneTwin(t testing.TB, h weakLanes, data []byte, at int) []byte {
	t.Helper()
	right := h.digest(data)
	from := at * sizesOf(h.kind).block
	for i := range 1 << 13 {
		other := bytes.Clone(data)
		other[from] += byte(i + 1)
		other[from+1] += byte((i + 1) >> 8)
		if bytes.Equal(h.rows(other)[1][0].Data, h.rows(data)[1][0].Data) && bytes.Equal(h.digest(other), right) {
			return other
		}
	}
	t.Fatalf("kind %d: lane %d has no twin", h.kind, at)
	return nil
}

func TestAlikeEverywhere(t *testing.T) { // P1: rows that are all alike, or none, give up with an error that is recovered, not with a panic that is seen
	for _, k := range kinds {
		x := byTree{weak(k, 1, 2, 3, 4)}
		for _, h := range []hashing{deaf{x, 0}, deaf{x, 2}, deaf{x, 9}} {
			if p, e := find(h, []byte("a"), []byte("bc")); e != api.ErrNone || !isZero(p.first) || !isZero(p.second) || p.row != 0 || p.at != 0 {
				t.Errorf("%v, error %d", p, e)
			}
		}
	}
}

// deaf hashes no byte of any message.
type deaf struct {
	byTree
	many int
}

func (h deaf) digest([]byte) []byte { return nil }

func (h deaf) rows(data []byte) [][]api.Call {
	// Of two messages of unlike lengths one has more nodes in its last row.
	rows := make([][]api.Call, h.many)
	if h.many > 0 {
		rows[0] = make([]api.Call, len(data))
	}
	return rows
}
