package mac

import (
	"bytes"
	"encoding/hex"
	"testing"

	"quern/api"
)

func TestExampleSums(t *testing.T) { // P6.1: the chapter's first example
	b, e := Sum(api.Big, 64, []byte("abc"))
	wantOK(t, e)
	if got := hex.EncodeToString(b); len(b) != 64 || got[:32] != "ba80a53f981c4d0d6a2797b69f12f6e9" {
		t.Errorf("Big: %s", got)
	}
	b, e = Sum(api.Small, 32, []byte("abc"))
	wantOK(t, e)
	if got := hex.EncodeToString(b); got != "508c5e8c327c14e2e1a72ba34eeb452f37458b209ed63a294d999b4c86675982" {
		t.Errorf("Small: %s", got)
	}
	b, e = Sum(api.Big, 65, []byte("abc"))
	wantNo(t, "Sum of 65 bytes", b, e, api.ErrDigest)
}

func TestToldDigests(t *testing.T) { // P6.1
	for _, c := range toldDigests {
		key, salt, personal, data := rising(c.key), rising(c.salt), rising(c.personal), pattern(c.length)
		right, _ := hex.DecodeString(c.want)
		b, e := Make(c.kind, c.n, key, salt, personal, data)
		want(t, "Make", b, e, right)
		if c.key+c.salt+c.personal == 0 {
			b, e = Sum(c.kind, c.n, data)
			want(t, "Sum", b, e, right)
		}
		if c.salt+c.personal == 0 {
			b, e = Parts(c.kind, c.n, key, data)
			want(t, "Parts", b, e, right)
		}
		if c.key > 0 {
			wantCheck(t, c.kind, right, [][]byte{key, salt, personal, data}, true)
		}
	}
}

func wantCheck(t *testing.T, k api.Kind, tag []byte, words [][]byte, right bool) {
	t.Helper()
	if ok, e := Check(k, tag, words[0], words[1], words[2], words[3]); ok != right || e != api.OK {
		t.Errorf("Check(%d, %x, %x): %v %d, want %v", k, tag, words, ok, e, right)
	}
}

func TestDigestsOfEachLength(t *testing.T) { // P6.1: also the edges of blocks
	for _, k := range kinds {
		block := blockOf(k)
		for n := 1; n <= mostOf(k); n++ {
			for _, length := range []int{0, 1, block - 1, block, block + 1, 2 * block} {
				data := pattern(length)
				b, e := Sum(k, n, data)
				want(t, "Sum", b, e, byChapter(t, k, n, nil, nil, nil, data))
				b, e = Make(k, n, rising(n), rising(n/4), pattern(n/8), data)
				want(t, "Make", b, e, byChapter(t, k, n, rising(n), rising(n/4), pattern(n/8), data))
			}
		}
	}
}

func TestKeyWithoutAByte(t *testing.T) { // P6.1, P3: as without; a nought is a key
	for _, k := range kinds {
		right, e := Sum(k, 20, []byte("x"))
		wantOK(t, e)
		b, e := Make(k, 20, nil, nil, nil, []byte("x"))
		want(t, "nil", b, e, right)
		b, e = Make(k, 20, []byte{}, []byte{}, []byte{}, []byte("x"))
		want(t, "empty", b, e, right)
		// Noughts behind a salt and a personal are worth nothing, of a key they are.
		b, e = Make(k, 20, nil, make([]byte, saltOf(k)), make([]byte, saltOf(k)), []byte("x"))
		want(t, "noughts", b, e, right)
		b, e = Make(k, 20, []byte{0}, nil, nil, []byte("x"))
		wantOK(t, e)
		if bytes.Equal(b, right) {
			t.Errorf("a nought as key: as without")
		}
	}
}

// refusal is words that Make refuses, and how.
type refusal struct {
	what                string
	k                   api.Kind
	n                   int
	key, salt, personal []byte
	why                 api.Errno
}

// refusals are each error of Make, alone and ahead of all behind it.
func refusals() []refusal {
	var list []refusal
	for _, k := range noKinds {
		list = append(list, refusal{"kind", k, 1, nil, nil, nil, api.ErrArg}, refusal{"kind and all", k, -1, rising(65), rising(17), rising(17), api.ErrArg})
	}
	for _, k := range kinds {
		key, salt := rising(mostOf(k)+1), rising(saltOf(k)+1)
		for _, n := range badLengths(k) {
			list = append(list, refusal{"digest", k, n, nil, nil, nil, api.ErrDigest}, refusal{"digest and all", k, n, key, salt, salt, api.ErrDigest})
		}
		list = append(list,
			refusal{"key", k, 1, key, nil, nil, api.ErrKey},
			refusal{"key and all behind", k, 1, key, salt, salt, api.ErrKey},
			refusal{"a key that is one byte longer than a byte can tell", k, 1, rising(256), nil, nil, api.ErrKey},
			refusal{"salt", k, 1, rising(1), salt, nil, api.ErrSalt},
			refusal{"salt and personal", k, 1, nil, salt, salt, api.ErrSalt},
			refusal{"a salt of noughts", k, 1, nil, make([]byte, len(salt)), nil, api.ErrSalt},
			refusal{"personal", k, 1, rising(1), salt[1:], salt, api.ErrPersonal},
		)
	}
	return list
}

func TestMakeRefuses(t *testing.T) { // P6.1, P6.2, P1, P2
	for _, c := range refusals() {
		b, e := Make(c.k, c.n, c.key, c.salt, c.personal, []byte("x"))
		wantNo(t, "Make: "+c.what, b, e, c.why)
		if len(c.key)+len(c.salt)+len(c.personal) == 0 {
			b, e = Sum(c.k, c.n, nil)
			wantNo(t, "Sum: "+c.what, b, e, c.why)
		}
		if len(c.salt)+len(c.personal) == 0 {
			b, e = Parts(c.k, c.n, c.key, []byte("x"), nil)
			wantNo(t, "Parts: "+c.what, b, e, c.why)
			b, e = Parts(c.k, c.n, c.key)
			wantNo(t, "Parts of none: "+c.what, b, e, c.why)
			b, e = Tuple(c.k, c.n, c.key, []byte("x"), nil)
			wantNo(t, "Tuple: "+c.what, b, e, c.why)
		}
	}
}

func TestMakeAtItsMost(t *testing.T) { // P6.1, Limits
	for _, k := range kinds {
		most, salt := mostOf(k), saltOf(k)
		for _, n := range []int{1, most} {
			b, e := Make(k, n, rising(most), rising(salt), pattern(salt), []byte("x"))
			want(t, "Make", b, e, byChapter(t, k, n, rising(most), rising(salt), pattern(salt), []byte("x")))
		}
	}
}

func TestCheck(t *testing.T) { // P6.1, P6.5: what Make answers, with the same words, and nothing else of as many bytes
	for _, k := range kinds {
		for _, n := range []int{4, 16, mostOf(k)} {
			words := [][]byte{rising(5), rising(3), pattern(4), pattern(200)}
			tag := byChapter(t, k, n, words[0], words[1], words[2], words[3])
			wantCheck(t, k, tag, words, true)
			for bit := range 8 * n {
				turned := bytes.Clone(tag)
				turned[bit/8] ^= 1 << (bit % 8)
				wantCheck(t, k, turned, words, false)
			}
			for i := range words {
				others := append([][]byte{}, words...)
				others[i] = append(bytes.Clone(words[i]), 'x')
				wantCheck(t, k, tag, others, false)
				others[i] = bytes.Clone(words[i])
				others[i][0] ^= 1
				wantCheck(t, k, tag, others, false)
			}
			// A shorter digest is no beginning of a longer one.
			wantCheck(t, k, tag[:n-1], words, false)
		}
	}
}

func TestCheckOfOneByte(t *testing.T) { // P6.1: of 256 tags just one is taken
	for _, k := range kinds {
		taken := 0
		for i := range 256 {
			ok, e := Check(k, []byte{byte(i)}, []byte("key"), nil, nil, []byte("x"))
			wantOK(t, e)
			if ok {
				taken++
				want(t, "the one that is taken", []byte{byte(i)}, e, byChapter(t, k, 1, []byte("key"), nil, nil, []byte("x")))
			}
		}
		if taken != 1 {
			t.Errorf("kind %d: %d tags are taken", k, taken)
		}
	}
}

func TestCheckRefuses(t *testing.T) { // P6.1, P2: ErrArg, ErrTag, ErrKey, and then Make's
	no := func(what string, k api.Kind, tag, key, salt, personal []byte, right api.Errno) {
		t.Helper()
		if ok, e := Check(k, tag, key, salt, personal, []byte("x")); ok || e != right {
			t.Errorf("kind %d, %s: %v %d, want %d", k, what, ok, e, right)
		}
	}
	for _, k := range noKinds {
		no("kind", k, rising(1), rising(1), nil, nil, api.ErrArg)
		no("kind and all", k, nil, nil, rising(17), rising(17), api.ErrArg)
	}
	for _, k := range kinds {
		one, most, salt := rising(1), mostOf(k), rising(saltOf(k)+1)
		no("no tag", k, nil, one, nil, nil, api.ErrTag)
		no("an empty tag", k, []byte{}, one, nil, nil, api.ErrTag)
		no("a long tag", k, rising(most+1), one, nil, nil, api.ErrTag)
		no("a tag of 257 bytes", k, rising(257), one, nil, nil, api.ErrTag)
		no("no tag, no key, and all", k, nil, nil, salt, salt, api.ErrTag)
		no("a long tag, a long key, and all", k, rising(most+1), rising(most+1), salt, salt, api.ErrTag)
		no("no key", k, one, nil, nil, nil, api.ErrKey)
		no("an empty key and all behind", k, rising(most), []byte{}, salt, salt, api.ErrKey)
		no("a long key", k, one, rising(most+1), nil, nil, api.ErrKey)
		no("a long key and all behind", k, one, rising(most+1), salt, salt, api.ErrKey)
		no("salt", k, one, one, salt, nil, api.ErrSalt)
		no("salt and personal", k, one, one, salt, salt, api.ErrSalt)
		no("personal", k, one, one, nil, salt, api.ErrPersonal)
		// A digest without a key is no tag, even where it is handed in with none.
		sum, e := Sum(k, most, []byte("x"))
		wantOK(t, e)
		no("a digest without a key", k, sum, nil, nil, nil, api.ErrKey)
	}
}

func TestEqual(t *testing.T) { // P6.1, P3
	for n := range 40 {
		a := pattern(n)
		if !Equal(a, pattern(n)) {
			t.Errorf("%d bytes: not equal", n)
		}
		if Equal(a, append(pattern(n), 0)) || Equal(append(pattern(n), 0), a) {
			t.Errorf("%d bytes: equal to one more", n)
		}
		for bit := range 8 * n {
			b := pattern(n)
			b[bit/8] ^= 1 << (bit % 8)
			if Equal(a, b) || Equal(b, a) {
				t.Errorf("%d bytes: equal, with bit %d turned", n, bit)
			}
		}
	}
	if !Equal(nil, []byte{}) || !Equal([]byte{}, nil) || !Equal(nil, nil) {
		t.Errorf("nil and empty")
	}
	if Equal([]byte{1, 2}, []byte{2, 1}) || Equal([]byte{0x80, 0x80}, []byte{0, 0}) {
		t.Errorf("bytes that differ twice")
	}
}

func TestDigestsAreTheirOwn(t *testing.T) { // P4
	for _, k := range kinds {
		for _, n := range []int{1, 17, mostOf(k)} {
			wantOwn(t, "Sum", func(a [][]byte) []byte {
				b, _ := Sum(k, n, a[0])
				return b
			}, pattern(200))
			wantOwn(t, "Make", func(a [][]byte) []byte {
				b, _ := Make(k, n, a[0], a[1], a[2], a[3])
				return b
			}, rising(7), rising(5), rising(3), pattern(200))
			wantOwn(t, "Check and Equal", func(a [][]byte) []byte {
				_, e := Check(k, a[0], a[1], a[2], a[3], a[4])
				wantOK(t, e)
				Equal(a[0], a[4])
				return nil
			}, rising(n), rising(7), rising(5), rising(3), pattern(200))
		}
	}
}

// TestOneListForAll: arguments may share memory; a digest is that of what they were.
func TestOneListForAll(t *testing.T) { // P4, P5
	for _, k := range kinds {
		one := rising(8)
		b, e := Make(k, 8, one, one, one, one)
		want(t, "Make", b, e, byChapter(t, k, 8, rising(8), rising(8), rising(8), rising(8)))
		if !bytes.Equal(one, rising(8)) {
			t.Errorf("kind %d: the list has changed", k)
		}
	}
}
