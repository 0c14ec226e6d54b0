package param

import (
	"bytes"
	"math"
	"math/rand"
	"testing"

	"quern/api"
)

const (
	lowest  = math.MinInt
	highest = math.MaxInt
)

var (
	bothKinds = []api.Kind{api.Big, api.Small}
	noKinds   = []api.Kind{0, 3, -1, 255, lowest, highest}
)

// mostOf, saltOf and sizeOf are the table of the chapter's section 'Words', written once more.
func mostOf(k api.Kind) int { return map[api.Kind]int{api.Big: 64, api.Small: 32}[k] }
func saltOf(k api.Kind) int { return map[api.Kind]int{api.Big: 16, api.Small: 8}[k] }
func sizeOf(k api.Kind) int { return map[api.Kind]int{api.Big: 64, api.Small: 32}[k] }

func isZero(p api.Params) bool {
	return same(p, api.Params{})
}

// same holds parameters against each other as they stand, normal or not.
func same(p, q api.Params) bool {
	salts := bytes.Equal(p.Salt, q.Salt) && bytes.Equal(p.Personal, q.Personal)
	return salts && p.Digest == q.Digest && p.Key == q.Key && p.Fanout == q.Fanout && p.Depth == q.Depth && p.Leaf == q.Leaf && p.Offset == q.Offset && p.Xof == q.Xof && p.NodeDepth == q.NodeDepth && p.Inner == q.Inner
}

func noughts(n int) []byte { return make([]byte, n) }

func ones(n int) []byte { return bytes.Repeat([]byte{1}, n) }

// plain and extended may be, of both kinds.
func plain() api.Params { return api.Params{Digest: 1, Fanout: 1, Depth: 1} }

func extended() api.Params { return api.Params{Digest: 1, Xof: 1} }

// roomy tells a list with b in it and 0xee in the room behind its end.
func roomy(b []byte) []byte {
	room := append(bytes.Clone(b), bytes.Repeat([]byte{0xee}, 24)...)
	return room[:len(b)]
}

func untouched(list, want []byte) bool {
	return bytes.Equal(list, want) && bytes.Equal(list[:len(list)+24][len(list):], bytes.Repeat([]byte{0xee}, 24))
}

// spoil writes over all of a list's memory, spare room too.
func spoil(b []byte) {
	b = b[:cap(b)]
	for i := range b {
		b[i] ^= 0xff
	}
}

// someParams tells parameters that may be, normal or not, whose fields are often at their ends.
func someParams(r *rand.Rand, k api.Kind) api.Params {
	most := mostOf(k)
	p := api.Params{
		Digest: pickInt(r, 1, most), Key: pickInt(r, 0, most), Fanout: pickInt(r, 0, 255), Depth: pickInt(r, 1, 255),
		Leaf: uint32(pickWord(r, 32)), NodeDepth: pickInt(r, 0, 255), Inner: pickInt(r, 0, most),
		Salt: someSalt(r, saltOf(k)), Personal: someSalt(r, saltOf(k)),
	}
	if r.Intn(2) == 0 {
		p.Offset = pickWord(r, 64)
		if k == api.Small {
			p.Offset = pickWord(r, 48)
		}
		return p
	}
	p.Offset = pickWord(r, 32)
	p.Xof = max(1, uint32(pickWord(r, 32)))
	if k == api.Small {
		p.Xof = max(1, uint32(pickWord(r, 16)))
	}
	if r.Intn(3) == 0 {
		p.Depth = 0
	}
	return p
}

func pickInt(r *rand.Rand, from, to int) int {
	switch r.Intn(4) {
	case 0:
		return from
	case 1:
		return to
	}
	return from + r.Intn(to-from+1)
}

func pickWord(r *rand.Rand, bits int) uint64 {
	last := uint64(math.MaxUint64) >> (64 - bits)
	switch r.Intn(5) {
	case 0:
		return 0
	case 1:
		return last
	case 2:
		return last >> r.Intn(bits)
	}
	return r.Uint64() & last
}

func someSalt(r *rand.Rand, most int) []byte {
	b := make([]byte, r.Intn(most+1))
	for i := range b {
		b[i] = byte(r.Intn(256) * r.Intn(2))
	}
	return b
}

// normalOf is what P2.3 calls normal, written once more.
func normalOf(p api.Params) api.Params {
	p.Salt = bytes.TrimRight(p.Salt, "\x00")
	p.Personal = bytes.TrimRight(p.Personal, "\x00")
	return p
}

func TestSizes(t *testing.T) { // P2.1
	for _, k := range bothKinds {
		if n, e := Size(k); n != sizeOf(k) || e != api.OK {
			t.Errorf("Size(%d) = %d, %d", k, n, e)
		}
		if n, e := Most(k); n != mostOf(k) || e != api.OK {
			t.Errorf("Most(%d) = %d, %d", k, n, e)
		}
	}
}

func TestPlain(t *testing.T) { // P2.1
	for _, k := range bothKinds {
		most := mostOf(k)
		for digest := 1; digest <= most; digest++ {
			for key := range most + 1 {
				p, e := Plain(k, digest, key)
				if e != api.OK || !same(p, api.Params{Digest: digest, Key: key, Fanout: 1, Depth: 1}) {
					t.Fatalf("Plain(%d, %d, %d) = %v, %d", k, digest, key, p, e)
				}
			}
		}
		for _, c := range []struct {
			digest, key int
			e           api.Errno
		}{
			{0, 0, api.ErrDigest}, {-1, 0, api.ErrDigest}, {lowest, 0, api.ErrDigest}, {highest, 0, api.ErrDigest}, {most + 1, 0, api.ErrDigest},
			{1, -1, api.ErrKey}, {1, lowest, api.ErrKey}, {1, highest, api.ErrKey}, {1, most + 1, api.ErrKey},
			{0, -1, api.ErrDigest}, {most + 1, most + 1, api.ErrDigest},
		} {
			if p, e := Plain(k, c.digest, c.key); e != c.e || !isZero(p) {
				t.Errorf("Plain(%d, %d, %d) = %v, %d", k, c.digest, c.key, p, e)
			}
		}
	}
}

func TestKindComesFirst(t *testing.T) { // P2.1 to P2.8, P1
	wrong := api.Params{Digest: -1, Key: -1, Salt: noughts(99)}
	for _, k := range noKinds {
		n, e1 := Size(k)
		m, e2 := Most(k)
		p, e3 := Plain(k, -1, -1)
		e4 := Check(k, wrong)
		q, e5 := Normal(k, wrong)
		is, e6 := Same(k, wrong, wrong)
		block, e7 := Encode(k, wrong)
		r, e8 := Decode(k, nil, true)
		twin, has, e9 := Twin(k, wrong)
		words, e10 := Words(k, wrong)
		value, e11 := Get(k, nil, 0)
		put, e12 := Put(k, noughts(99), 0, math.MaxUint64)
		text, e13 := Show(k, wrong)
		for i, e := range []api.Errno{e1, e2, e3, e4, e5, e6, e7, e8, e9, e10, e11, e12, e13} {
			if e != api.ErrArg {
				t.Errorf("kind %d, call %d: %d", k, i+1, e)
			}
		}
		if n != 0 || m != 0 || value != 0 || is || has || text != "" || len(block)+len(words)+len(put) != 0 || !isZero(p) || !isZero(q) || !isZero(r) || !isZero(twin) {
			t.Errorf("kind %d: something stands beside the error", k)
		}
		if e := Check(k, plain()); e != api.ErrArg {
			t.Errorf("Check(%d) of what may be: %d", k, e)
		}
	}
}

// edge is a change of parameters that may be, with what Check tells then.
type edge struct {
	name string
	set  func(*api.Params)
	e    api.Errno
}

func intEdges(name string, from, to int, e api.Errno, field func(*api.Params) *int) []edge {
	var edges []edge
	for _, n := range []int{from, from + 1, to - 1, to} {
		edges = append(edges, edge{name, func(p *api.Params) { *field(p) = n }, api.OK})
	}
	for _, n := range []int{from - 1, to + 1, to + 256, lowest, highest, math.MinInt32, math.MaxInt32, 1 << 32, 1<<32 + to} {
		edges = append(edges, edge{name, func(p *api.Params) { *field(p) = n }, e})
	}
	return edges
}

// edgesOf are the edges that are the same in both forms.
func edgesOf(k api.Kind) []edge {
	most, salt := mostOf(k), saltOf(k)
	var edges []edge
	edges = append(edges, intEdges("Digest", 1, most, api.ErrDigest, func(p *api.Params) *int { return &p.Digest })...)
	edges = append(edges, intEdges("Key", 0, most, api.ErrKey, func(p *api.Params) *int { return &p.Key })...)
	edges = append(edges, intEdges("Fanout", 0, 255, api.ErrFanout, func(p *api.Params) *int { return &p.Fanout })...)
	edges = append(edges, intEdges("Depth", 1, 255, api.OK, func(p *api.Params) *int { return &p.Depth })[:4]...)
	edges = append(edges, intEdges("Depth", 0, 255, api.ErrDepth, func(p *api.Params) *int { return &p.Depth })[4:]...)
	edges = append(edges, intEdges("NodeDepth", 0, 255, api.ErrRow, func(p *api.Params) *int { return &p.NodeDepth })...)
	edges = append(edges, intEdges("Inner", 0, most, api.ErrInner, func(p *api.Params) *int { return &p.Inner })...)
	edges = append(edges,
		edge{"Leaf", func(p *api.Params) { p.Leaf = math.MaxUint32 }, api.OK},
		edge{"Salt", func(p *api.Params) { p.Salt = nil }, api.OK},
		edge{"Salt", func(p *api.Params) { p.Salt = []byte{} }, api.OK},
		edge{"Salt", func(p *api.Params) { p.Salt = ones(salt) }, api.OK},
		edge{"Salt", func(p *api.Params) { p.Salt = ones(salt + 1) }, api.ErrSalt},
		// A nought at the end is a byte too many as well.
		edge{"Salt", func(p *api.Params) { p.Salt = noughts(salt + 1) }, api.ErrSalt},
		edge{"Salt", func(p *api.Params) { p.Salt = noughts(1 << 16) }, api.ErrSalt},
		edge{"Personal", func(p *api.Params) { p.Personal = ones(salt) }, api.OK},
		edge{"Personal", func(p *api.Params) { p.Personal = ones(salt + 1) }, api.ErrPersonal},
		edge{"Personal", func(p *api.Params) { p.Personal = noughts(salt + 1) }, api.ErrPersonal},
	)
	return edges
}

func mustCheck(t *testing.T, k api.Kind, p api.Params, want api.Errno, name string) {
	t.Helper()
	if e := Check(k, p); e != want {
		t.Errorf("Check(%d, %v): %d, not %d (%s)", k, p, e, want, name)
	}
}

func TestCheckEdges(t *testing.T) { // P2.2
	for _, k := range bothKinds {
		mustCheck(t, k, plain(), api.OK, "plain")
		mustCheck(t, k, extended(), api.OK, "extended")
		for _, c := range edgesOf(k) {
			p, q := plain(), extended()
			c.set(&p)
			c.set(&q)
			mustCheck(t, k, p, c.e, c.name)
			mustCheck(t, k, q, c.e, c.name)
		}
	}
}

func TestCheckOfTheForms(t *testing.T) { // P2.2
	for _, c := range []struct {
		k api.Kind
		p api.Params
		e api.Errno
	}{
		{api.Big, api.Params{Digest: 1, Depth: 0}, api.ErrDepth},
		{api.Small, api.Params{Digest: 1, Depth: 0}, api.ErrDepth},
		{api.Big, api.Params{Digest: 1, Depth: 0, Xof: 1}, api.OK},
		{api.Small, api.Params{Digest: 1, Depth: 0, Xof: 1}, api.OK},
		{api.Big, api.Params{Digest: 1, Depth: 1, Offset: 1 << 32}, api.OK},
		{api.Big, api.Params{Digest: 1, Depth: 1, Offset: math.MaxUint64}, api.OK},
		{api.Small, api.Params{Digest: 1, Depth: 1, Offset: 1 << 32}, api.OK},
		{api.Small, api.Params{Digest: 1, Depth: 1, Offset: 1<<48 - 1}, api.OK},
		{api.Small, api.Params{Digest: 1, Depth: 1, Offset: 1 << 48}, api.ErrOffset},
		{api.Small, api.Params{Digest: 1, Depth: 1, Offset: math.MaxUint64}, api.ErrOffset},
		{api.Big, api.Params{Digest: 1, Offset: 1<<32 - 1, Xof: 1}, api.OK},
		{api.Big, api.Params{Digest: 1, Offset: 1 << 32, Xof: 1}, api.ErrOffset},
		{api.Big, api.Params{Digest: 1, Offset: 1 << 63, Xof: math.MaxUint32}, api.ErrOffset},
		{api.Small, api.Params{Digest: 1, Offset: 1<<32 - 1, Xof: 1}, api.OK},
		{api.Small, api.Params{Digest: 1, Offset: 1 << 32, Xof: 1}, api.ErrOffset},
		{api.Small, api.Params{Digest: 1, Offset: 1 << 32, Xof: 65536}, api.ErrOffset},
		{api.Small, api.Params{Digest: 1, Xof: 65535}, api.OK},
		{api.Small, api.Params{Digest: 1, Xof: 65536}, api.ErrXof},
		{api.Small, api.Params{Digest: 1, Xof: math.MaxUint32}, api.ErrXof},
		{api.Big, api.Params{Digest: 1, Xof: 65536}, api.OK},
		{api.Big, api.Params{Digest: 1, Xof: math.MaxUint32}, api.OK},
	} {
		mustCheck(t, c.k, c.p, c.e, "")
	}
}

// TestCheckTellsTheFirst lays every set of faults down at one time.
func TestCheckTellsTheFirst(t *testing.T) { // P2.2, P2
	faults := []edge{
		{"Digest", func(p *api.Params) { p.Digest = 0 }, api.ErrDigest},
		{"Key", func(p *api.Params) { p.Key = 65 }, api.ErrKey},
		{"Fanout", func(p *api.Params) { p.Fanout = 256 }, api.ErrFanout},
		{"Depth", func(p *api.Params) { p.Depth = -1 }, api.ErrDepth},
		{"Offset", func(p *api.Params) { p.Offset = 1 << 48 }, api.ErrOffset},
		{"Xof", func(p *api.Params) { p.Xof = 65536 }, api.ErrXof},
		{"NodeDepth", func(p *api.Params) { p.NodeDepth = 256 }, api.ErrRow},
		{"Inner", func(p *api.Params) { p.Inner = 33 }, api.ErrInner},
		{"Salt", func(p *api.Params) { p.Salt = ones(9) }, api.ErrSalt},
		{"Personal", func(p *api.Params) { p.Personal = ones(9) }, api.ErrPersonal},
	}
	for set := range 1 << len(faults) {
		p, want := plain(), api.OK
		for i := len(faults) - 1; i >= 0; i-- {
			if set>>i&1 == 1 {
				faults[i].set(&p)
				want = faults[i].e
			}
		}
		mustCheck(t, api.Small, p, want, "")
	}
}

func TestNormal(t *testing.T) { // P2.3
	for _, k := range bothKinds {
		full := saltOf(k)
		for _, c := range []struct{ given, want []byte }{
			{nil, nil},
			{[]byte{}, nil},
			{[]byte{0}, nil},
			{noughts(full), nil},
			{[]byte{1}, []byte{1}},
			{[]byte{1, 0}, []byte{1}},
			{[]byte{0, 1}, []byte{0, 1}},
			{[]byte{0, 0, 5, 0, 0, 7, 0, 0}, []byte{0, 0, 5, 0, 0, 7}},
			{ones(full), ones(full)},
			{append(noughts(full-1), 9), append(noughts(full-1), 9)},
			{append(ones(full-1), 0), ones(full - 1)},
			{append(ones(1), noughts(full-1)...), ones(1)},
		} {
			p := api.Params{Digest: 3, Key: 2, Fanout: 5, Depth: 6, Leaf: 7, Offset: 8, Xof: 9, NodeDepth: 10, Inner: 11, Salt: c.given, Personal: []byte{7, 0}}
			want := p
			want.Salt, want.Personal = c.want, []byte{7}
			if q, e := Normal(k, p); e != api.OK || !same(q, want) {
				t.Errorf("Normal(%d, %v) = %v, %d", k, p, q, e)
			}
			p.Salt, p.Personal = []byte{7, 0}, c.given
			want.Salt, want.Personal = []byte{7}, c.want
			if q, e := Normal(k, p); e != api.OK || !same(q, want) {
				t.Errorf("Normal(%d, %v) = %v, %d", k, p, q, e)
			}
		}
	}
}

// TestErrorsOfCheck asks the calls that answer Check's errors for each of them.
func TestErrorsOfCheck(t *testing.T) { // P2.3 to P2.6, P2.8, P2
	for _, k := range bothKinds {
		for _, c := range edgesOf(k) {
			for _, p := range []api.Params{plain(), extended()} {
				c.set(&p)
				mustTellCheck(t, k, p, c.e)
			}
		}
	}
	mustTellCheck(t, api.Small, api.Params{Digest: 1, Xof: 65536}, api.ErrXof)
	mustTellCheck(t, api.Small, api.Params{Digest: 1, Depth: 1, Offset: 1 << 48}, api.ErrOffset)
	mustTellCheck(t, api.Big, api.Params{Digest: 1, Offset: 1 << 32, Xof: 1}, api.ErrOffset)
}

func mustTellCheck(t *testing.T, k api.Kind, p api.Params, want api.Errno) {
	t.Helper()
	q, e1 := Normal(k, p)
	block, e2 := Encode(k, p)
	twin, has, e3 := Twin(k, p)
	words, e4 := Words(k, p)
	text, e5 := Show(k, p)
	is, e6 := Same(k, p, plain())
	for i, e := range []api.Errno{e1, e2, e3, e4, e5, e6} {
		if e != want {
			t.Errorf("kind %d, %v, call %d: %d, not %d", k, p, i+1, e, want)
		}
	}
	if want == api.OK {
		return
	}
	if !isZero(q) || !isZero(twin) || has || is || len(block)+len(words)+len(text) != 0 {
		t.Errorf("kind %d, %v: something stands beside the error", k, p)
	}
}

func TestSame(t *testing.T) { // P2.3
	p := api.Params{Digest: 3, Key: 2, Fanout: 5, Depth: 6, Leaf: 7, Offset: 8, Xof: 9, NodeDepth: 10, Inner: 11, Salt: []byte{1, 2}, Personal: []byte{3, 4}}
	alike := []func(*api.Params){
		func(q *api.Params) {},
		func(q *api.Params) { q.Salt = []byte{1, 2, 0} },
		func(q *api.Params) { q.Salt = []byte{1, 2, 0, 0, 0, 0, 0, 0} },
		func(q *api.Params) { q.Personal = []byte{3, 4, 0, 0} },
	}
	unlike := []func(*api.Params){
		func(q *api.Params) { q.Digest++ },
		func(q *api.Params) { q.Key++ },
		func(q *api.Params) { q.Fanout++ },
		func(q *api.Params) { q.Depth++ },
		func(q *api.Params) { q.Leaf++ },
		func(q *api.Params) { q.Offset++ },
		func(q *api.Params) { q.Xof++ },
		func(q *api.Params) { q.Xof = 0 },
		func(q *api.Params) { q.NodeDepth++ },
		func(q *api.Params) { q.Inner++ },
		func(q *api.Params) { q.Salt = []byte{1} },
		func(q *api.Params) { q.Salt = []byte{1, 3} },
		func(q *api.Params) { q.Salt = []byte{0, 1, 2} },
		func(q *api.Params) { q.Salt = nil },
		func(q *api.Params) { q.Personal = []byte{3} },
		func(q *api.Params) { q.Personal = []byte{4, 4} },
		func(q *api.Params) { q.Salt, q.Personal = q.Personal, q.Salt },
	}
	for _, k := range bothKinds {
		for i, change := range append(alike, unlike...) {
			q := p
			change(&q)
			want := i < len(alike)
			if is, e := Same(k, p, q); is != want || e != api.OK {
				t.Errorf("Same(%d, %v, %v) = %v, %d", k, p, q, is, e)
			}
			if is, e := Same(k, q, p); is != want || e != api.OK {
				t.Errorf("Same(%d, %v, %v) = %v, %d", k, q, p, is, e)
			}
		}
		empty, none := plain(), plain()
		empty.Salt, none.Personal = []byte{}, noughts(saltOf(k))
		if is, e := Same(k, empty, none); !is || e != api.OK {
			t.Errorf("nil, empty and noughts are not the same: %v, %d", is, e)
		}
	}
}

func TestSameTellsTheFirst(t *testing.T) { // P2.3
	for _, k := range bothKinds {
		noDigest, noKey := plain(), plain()
		noDigest.Digest, noKey.Key = 0, -1
		for _, c := range []struct {
			p, q api.Params
			e    api.Errno
		}{
			{noKey, plain(), api.ErrKey},
			{plain(), noKey, api.ErrKey},
			{noKey, noDigest, api.ErrKey},
			{noDigest, noKey, api.ErrDigest},
			{noKey, noKey, api.ErrKey},
		} {
			if is, e := Same(k, c.p, c.q); is || e != c.e {
				t.Errorf("Same(%d, %v, %v) = %v, %d", k, c.p, c.q, is, e)
			}
		}
	}
}

func TestArgumentsStay(t *testing.T) { // P4
	salt, personal := []byte{1, 0, 2, 0, 0}, []byte{3, 0, 0}
	p := plain()
	p.Salt, p.Personal = roomy(salt), roomy(personal)
	for _, k := range bothKinds {
		Check(k, p)
		Normal(k, p)
		Same(k, p, p)
		Encode(k, p)
		Twin(k, p)
		Words(k, p)
		Show(k, p)
		block, _ := Encode(k, p)
		given := roomy(block)
		Decode(k, given, false)
		Decode(k, given, true)
		Get(k, given, api.FieldLeaf)
		Put(k, given, api.FieldLeaf, 77)
		if !untouched(given, block) {
			t.Errorf("kind %d: the block was changed", k)
		}
		if !untouched(p.Salt, salt) || !untouched(p.Personal, personal) {
			t.Errorf("kind %d: the salt or the personal was changed", k)
		}
	}
}

// TestNewMemory writes over an answer's lists, one by one, and looks at the others and at what was given.
func TestNewMemory(t *testing.T) { // P4
	for _, k := range bothKinds {
		p := plain()
		p.Salt, p.Personal = ones(saltOf(k)), []byte{5, 6, 0}
		block, _ := Encode(k, p)
		text, _ := Show(k, p)
		for name, call := range map[string]func() api.Params{
			"Normal": func() api.Params { q, _ := Normal(k, p); return q },
			"Decode": func() api.Params { q, _ := Decode(k, block, false); return q },
			"Twin":   func() api.Params { return twinOfTwin(k, p) },
			"Read":   func() api.Params { _, q, _, _ := Read(text); return q },
		} {
			first := call()
			spoil(first.Salt)
			if !bytes.Equal(first.Personal, []byte{5, 6}) {
				t.Errorf("%s(%d): Salt and Personal share memory", name, k)
			}
			spoil(first.Personal)
			if second := call(); !same(second, normalOf(p)) {
				t.Errorf("%s(%d): what was written over an answer is seen", name, k)
			}
		}
		changed, _ := Put(k, block, api.FieldDigest, 9)
		spoil(changed)
		encoded, _ := Encode(k, p)
		spoil(encoded)
		if again, _ := Encode(k, p); !bytes.Equal(again, block) {
			t.Errorf("kind %d: blocks share memory", k)
		}
	}
}

func twinOfTwin(k api.Kind, p api.Params) api.Params {
	p.Offset = 1 << 32
	q, _, _ := Twin(k, p)
	back, _, _ := Twin(k, q)
	back.Offset = 0
	return back
}
