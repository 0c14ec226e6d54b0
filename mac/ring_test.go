package mac

import (
	"bytes"
	"math/rand"
	"slices"
	"strconv"
	"strings"
	"testing"

	"quern/api"
)

func ring(t *testing.T, k api.Kind, n int) *Ring {
	t.Helper()
	r, e := NewRing(k, n)
	if r == nil || e != api.OK {
		t.Fatalf("NewRing(%d, %d): %v %d", k, n, r, e)
	}
	return r
}

func wantErr(t *testing.T, what string, got, right api.Errno) {
	t.Helper()
	if got != right {
		t.Errorf("%s: %d, want %d", what, got, right)
	}
}

func wantNames(t *testing.T, r *Ring, right ...string) {
	t.Helper()
	if got := r.Names(); !slices.Equal(got, right) {
		t.Errorf("names %q, want %q", got, right)
	}
}

func wantWho(t *testing.T, r *Ring, tag, data []byte, name string, found bool) {
	t.Helper()
	if who, is, e := r.Who(tag, data); who != name || is != found || e != api.OK {
		t.Errorf("Who: %q %v %d, want %q %v", who, is, e, name, found)
	}
}

func TestExampleRing(t *testing.T) { // P6.4: the chapter's fourth example
	for _, k := range kinds {
		r := ring(t, k, 16)
		wantErr(t, "a", r.Add("a", rising(9)), api.OK)
		wantErr(t, "b", r.Add("b", rising(9)), api.OK)
		tag, e := r.Tag("b", []byte("x"))
		wantOK(t, e)
		wantWho(t, r, tag, []byte("x"), "a", true)
		wantErr(t, "Drop", r.Drop("a"), api.OK)
		wantWho(t, r, tag, []byte("x"), "b", true)
	}
}

func TestNewRing(t *testing.T) { // P6.4, P2
	for _, k := range noKinds {
		for _, n := range []int{1, 0, 65} {
			if r, e := NewRing(k, n); r != nil || e != api.ErrArg {
				t.Errorf("kind %d, %d bytes: %v %d", k, n, r, e)
			}
		}
	}
	for _, k := range kinds {
		for _, n := range badLengths(k) {
			if r, e := NewRing(k, n); r != nil || e != api.ErrDigest {
				t.Errorf("kind %d, %d bytes: %v %d", k, n, r, e)
			}
		}
		for n := 1; n <= mostOf(k); n++ {
			r := ring(t, k, n)
			wantNames(t, r)
			wantWho(t, r, make([]byte, n), nil, "", false)
			wantErr(t, "Add", r.Add("a", rising(n)), api.OK)
			b, e := r.Tag("a", pattern(200))
			want(t, "Tag", b, e, byChapter(t, k, n, rising(n), nil, nil, pattern(200)))
			wantWho(t, r, b, pattern(200), "a", true)
		}
	}
}

func TestRingThatNoCallMade(t *testing.T) { // P6.4, P1: nil, or without NewRing
	for _, r := range []*Ring{nil, {}, new(Ring)} {
		for range 2 {
			wantErr(t, "Add", r.Add("a", rising(1)), api.ErrZero)
			wantErr(t, "Add of no name, no key", r.Add("", nil), api.ErrZero)
			wantErr(t, "Drop", r.Drop("a"), api.ErrZero)
			wantErr(t, "Drop of no name", r.Drop(""), api.ErrZero)
			wantNames(t, r)
			b, e := r.Tag("a", []byte("x"))
			wantNo(t, "Tag", b, e, api.ErrZero)
			for _, tag := range [][]byte{nil, rising(1), rising(64), rising(100)} {
				if who, is, e := r.Who(tag, []byte("x")); who != "" || is || e != api.ErrZero {
					t.Errorf("Who: %q %v %d", who, is, e)
				}
			}
		}
	}
}

// noNames are names that are none.
func noNames() []string {
	list := []string{"", strings.Repeat("a", 65), strings.Repeat("a", 1000), "a b", " a", "a ", "é", "\u00a0", strings.Repeat("a", 63) + "\n"}
	for c := range 256 {
		if c < 0x21 || c > 0x7e {
			list = append(list, string([]byte{byte(c)}), string([]byte{'a', byte(c), 'b'}))
		}
	}
	return list
}

func TestNamesOfRings(t *testing.T) { // P6.4: 1 to 64 bytes from 21 to 7e
	r := ring(t, api.Small, 8)
	for _, name := range noNames() {
		wantErr(t, strconv.Quote(name), r.Add(name, rising(1)), api.ErrLabel)
	}
	wantNames(t, r)
	var all []string
	for c := 0x21; c <= 0x7e; c++ {
		name := string(rune(c))
		wantErr(t, name, r.Add(name, rising(1)), api.OK)
		all = append(all, name)
	}
	wantNames(t, r, all...)
	long := strings.Repeat("~", 64)
	wantErr(t, "64 bytes", r.Add(long, rising(1)), api.OK)
	wantNames(t, r, append(all, long)...)
}

func TestNamesRise(t *testing.T) { // P6.4: byte by byte, a name ahead of those that it begins
	r := ring(t, api.Big, 8)
	for _, name := range []string{"b", "B", "a10", "a", "a9", "!", "~", "aa", "A", "a1"} {
		wantErr(t, name, r.Add(name, rising(1)), api.OK)
	}
	for range 20 {
		wantNames(t, r, "!", "A", "B", "a", "a1", "a10", "a9", "aa", "b", "~")
	}
}

func TestAddRefuses(t *testing.T) { // P6.4, P2: ErrLabel, ErrKey, ErrThere, ErrLong
	for _, k := range kinds {
		most := mostOf(k)
		r := ring(t, k, 8)
		wantErr(t, "a key of one byte", r.Add("a", rising(1)), api.OK)
		wantErr(t, "a key of the most", r.Add("b", rising(most)), api.OK)
		for _, key := range [][]byte{nil, {}, rising(most + 1), rising(257)} {
			wantErr(t, "no name, bad key", r.Add("a b", key), api.ErrLabel)
			wantErr(t, "bad key", r.Add("c", key), api.ErrKey)
			wantErr(t, "bad key of a name that is there", r.Add("a", key), api.ErrKey)
		}
		wantErr(t, "a name that is there", r.Add("a", rising(2)), api.ErrThere)
		wantErr(t, "the same again", r.Add("a", rising(1)), api.ErrThere)
		wantNames(t, r, "a", "b")
		tag, e := r.Tag("a", nil)
		want(t, "a's tag", tag, e, byChapter(t, k, 8, rising(1), nil, nil, nil))
	}
}

func TestFullRing(t *testing.T) { // P6.4, Limits: MaxRing keys and one more
	for _, k := range kinds {
		r := ring(t, k, 8)
		for i := range api.MaxRing {
			wantErr(t, "Add", r.Add("n"+strconv.Itoa(i), number(uint64(i))), api.OK)
		}
		wantErr(t, "one more", r.Add("more", rising(1)), api.ErrLong)
		wantErr(t, "one more of a name that is there", r.Add("n7", rising(1)), api.ErrThere)
		wantErr(t, "one more of a bad key", r.Add("more", nil), api.ErrKey)
		wantErr(t, "one more of no name", r.Add("", rising(1)), api.ErrLabel)
		names := r.Names()
		if len(names) != api.MaxRing || !slices.IsSorted(names) {
			t.Fatalf("%d names", len(names))
		}
		for i := range api.MaxRing {
			name := "n" + strconv.Itoa(i)
			tag, e := r.Tag(name, []byte("x"))
			want(t, "Tag", tag, e, byChapter(t, k, 8, number(uint64(i)), nil, nil, []byte("x")))
			if i%50 == 0 {
				wantWho(t, r, tag, []byte("x"), name, true)
			}
		}
		wantErr(t, "Drop", r.Drop("n200"), api.OK)
		wantErr(t, "one in its place", r.Add("more", rising(1)), api.OK)
		wantErr(t, "and one more", r.Add("n200", rising(1)), api.ErrLong)
	}
}

func TestDrop(t *testing.T) { // P6.4: gone, and added again
	r := ring(t, api.Small, 16)
	for _, name := range append(noNames(), "a") {
		wantErr(t, "Drop of an empty ring", r.Drop(name), api.ErrNone)
		b, e := r.Tag(name, nil)
		wantNo(t, "Tag of an empty ring", b, e, api.ErrNone)
	}
	wantErr(t, "Add", r.Add("a", rising(1)), api.OK)
	old, e := r.Tag("a", []byte("x"))
	wantOK(t, e)
	wantErr(t, "Drop of another", r.Drop("b"), api.ErrNone)
	wantErr(t, "Drop", r.Drop("a"), api.OK)
	wantErr(t, "Drop again", r.Drop("a"), api.ErrNone)
	wantNames(t, r)
	b, e := r.Tag("a", []byte("x"))
	wantNo(t, "Tag of one that is gone", b, e, api.ErrNone)
	wantWho(t, r, old, []byte("x"), "", false)
	// Behind Drop the name may come back, with another key.
	wantErr(t, "Add again", r.Add("a", rising(2)), api.OK)
	b, e = r.Tag("a", []byte("x"))
	want(t, "Tag of the new key", b, e, byChapter(t, api.Small, 16, rising(2), nil, nil, []byte("x")))
	wantWho(t, r, old, []byte("x"), "", false)
	wantWho(t, r, b, []byte("x"), "a", true)
}

func TestWho(t *testing.T) { // P6.4: the first name, rising, whatever came first
	for _, k := range kinds {
		r := ring(t, k, 12)
		for i, name := range []string{"m", "c", "z", "b", "y"} {
			wantErr(t, name, r.Add(name, rising(1+i%2)), api.OK) // m, z, y and c, b
		}
		for range 10 {
			tag, e := r.Tag("z", []byte("x"))
			wantOK(t, e)
			wantWho(t, r, tag, []byte("x"), "m", true)
			tag, _ = r.Tag("c", []byte("x"))
			wantWho(t, r, tag, []byte("x"), "b", true)
			wantWho(t, r, tag, []byte("y"), "", false)
			for bit := range 8 * len(tag) {
				turned := bytes.Clone(tag)
				turned[bit/8] ^= 1 << (bit % 8)
				wantWho(t, r, turned, []byte("x"), "", false)
			}
		}
		for _, n := range []int{0, 1, 11, 13, 64, 12 + 256} {
			if who, is, e := r.Who(rising(n), []byte("x")); who != "" || is || e != api.ErrTag {
				t.Errorf("Who of %d bytes: %q %v %d", n, who, is, e)
			}
		}
		tag, _ := r.Tag("m", nil)
		wantWho(t, r, tag, []byte{}, "m", true)
	}
}

// TestRingsAreTheirOwn: what is handed in and what is answered is nobody else's.
func TestRingsAreTheirOwn(t *testing.T) { // P4
	for _, k := range kinds {
		r := ring(t, k, 12)
		key, still := roomy(rising(9))
		wantErr(t, "Add", r.Add("a", key), api.OK)
		wantErr(t, "Add", r.Add("b", key[:5]), api.OK)
		if !still() {
			t.Errorf("kind %d: the key has changed", k)
		}
		spoil(key)
		wantOwn(t, "Tag", func(a [][]byte) []byte {
			b, e := r.Tag("a", a[0])
			wantOK(t, e)
			return b
		}, pattern(200))
		wantOwn(t, "Who", func(a [][]byte) []byte {
			who, _, e := r.Who(a[0], a[1])
			wantOK(t, e)
			return []byte(who)
		}, byChapter(t, k, 12, rising(5), nil, nil, pattern(200)), pattern(200))
		b, e := r.Tag("a", nil)
		want(t, "Tag", b, e, byChapter(t, k, 12, rising(9), nil, nil, nil))
		names := r.Names()
		for i := range names {
			names[i] = "spoilt"
		}
		_ = append(names, "spoilt")
		wantNames(t, r, "a", "b")
	}
}

func TestTwoRings(t *testing.T) { // P5: they know nothing of one another
	a, b := ring(t, api.Small, 8), ring(t, api.Small, 8)
	wantErr(t, "Add", a.Add("x", rising(1)), api.OK)
	wantNames(t, b)
	wantErr(t, "Add", b.Add("x", rising(2)), api.OK)
	tag, e := a.Tag("x", nil)
	want(t, "Tag", tag, e, byChapter(t, api.Small, 8, rising(1), nil, nil, nil))
	wantErr(t, "Drop", b.Drop("x"), api.OK)
	wantNames(t, a, "x")
}

// entry is a key of the model: a list in the order of names.
type entry struct {
	name string
	key  []byte
}

// model is a ring as the chapter has it, without a map.
type model struct {
	k    api.Kind
	n    int
	list []entry
}

func (m *model) find(name string) (int, bool) {
	return slices.BinarySearchFunc(m.list, name, func(e entry, name string) int { return strings.Compare(e.name, name) })
}

func (m *model) add(name string, key []byte) api.Errno {
	i, there := m.find(name)
	switch {
	case len(name) == 0 || strings.Contains(name, " "):
		return api.ErrLabel
	case len(key) == 0 || len(key) > mostOf(m.k):
		return api.ErrKey
	case there:
		return api.ErrThere
	}
	m.list = slices.Insert(m.list, i, entry{name, bytes.Clone(key)})
	return api.OK
}

func (m *model) drop(name string) api.Errno {
	i, there := m.find(name)
	if !there {
		return api.ErrNone
	}
	m.list = slices.Delete(m.list, i, i+1)
	return api.OK
}

func (m *model) who(t *testing.T, tag, data []byte) (string, bool) {
	for _, e := range m.list {
		if bytes.Equal(byChapter(t, m.k, m.n, e.key, nil, nil, data), tag) {
			return e.name, true
		}
	}
	return "", false
}

// TestRingByChance: in every order of calls a ring answers as the chapter says, whatever was refused on the way.
func TestRingByChance(t *testing.T) { // P6.4, P6.5, P2, P5
	names := []string{"a", "b", "ab", "B", "~", "", "a b", "zz"}
	for seed := range int64(8) {
		r := rand.New(rand.NewSource(seed))
		k, n := kinds[seed%2], 1+r.Intn(8)
		got, m := ring(t, k, n), &model{k: k, n: n}
		for range 600 {
			name, key, data := names[r.Intn(len(names))], rising(r.Intn(4)), pattern(r.Intn(3))
			if r.Intn(20) == 0 {
				key = rising(mostOf(k) + r.Intn(2))
			}
			switch r.Intn(5) {
			case 0, 1:
				wantErr(t, "Add", got.Add(name, key), m.add(name, key))
			case 2:
				wantErr(t, "Drop", got.Drop(name), m.drop(name))
			case 3:
				wantModelTag(t, got, m, name, data)
			case 4:
				tag := byChapter(t, k, n, rising(1+r.Intn(3)), nil, nil, data)
				who, is := m.who(t, tag, data)
				wantWho(t, got, tag, data, who, is)
			}
			var right []string
			for _, e := range m.list {
				right = append(right, e.name)
			}
			wantNames(t, got, right...)
		}
	}
}

func wantModelTag(t *testing.T, got *Ring, m *model, name string, data []byte) {
	t.Helper()
	b, e := got.Tag(name, data)
	if i, there := m.find(name); there {
		want(t, "Tag", b, e, byChapter(t, m.k, m.n, m.list[i].key, nil, nil, data))
		return
	}
	wantNo(t, "Tag", b, e, api.ErrNone)
}
