package mac

import (
	"bytes"
	"encoding/hex"
	"math"
	"math/rand"
	"strings"
	"testing"

	"quern/api"
)

// subkeyByHand tells a subkey as the chapter's words have it, salt and personal with all their bytes.
func subkeyByHand(t *testing.T, k api.Kind, n int, master []byte, id uint64, context string) []byte {
	t.Helper()
	salt, personal := make([]byte, saltOf(k)), make([]byte, saltOf(k))
	copy(salt, number(id))
	copy(personal, context)
	return byChapter(t, k, n, master, salt, personal, nil)
}

func TestExampleSubkey(t *testing.T) { // P6.3: the chapter's third example
	key := rising(20)
	b, e := Subkey(api.Small, 16, key, 1, "ctx")
	want(t, "Subkey", b, e, byChapter(t, api.Small, 16, key, []byte{1, 0, 0, 0, 0, 0, 0, 0}, []byte{0x63, 0x74, 0x78, 0, 0, 0, 0, 0}, nil))
	for _, k := range kinds {
		b, e = Derive(k, []byte("m"), "c")
		want(t, "Derive", b, e, []byte("m"))
	}
}

func TestToldSubkeys(t *testing.T) { // P6.3
	for _, c := range toldSubkeys {
		right, _ := hex.DecodeString(c.want)
		b, e := Subkey(c.kind, c.n, rising(c.master), c.id, c.context)
		want(t, "Subkey", b, e, right)
	}
	for _, c := range toldWays {
		right, _ := hex.DecodeString(c.want)
		b, e := Derive(c.kind, rising(c.master), c.context, c.ids...)
		want(t, "Derive", b, e, right)
	}
}

// someIDs have a bit in each of their bytes, and stand at the ends.
func someIDs() []uint64 {
	ids := []uint64{0, math.MaxUint64, math.MaxInt64, 0x0102030405060708}
	for i := range 64 {
		ids = append(ids, 1<<i)
	}
	return ids
}

func TestSubkey(t *testing.T) { // P6.3: contexts of no byte and of the most, ids of 0 and of the greatest number
	for _, k := range kinds {
		for _, id := range someIDs() {
			for _, context := range []string{"", "c", "\x00", "c\x00", "\xff\x80", strings.Repeat("x", saltOf(k)-1), strings.Repeat("x", saltOf(k))} {
				for _, n := range []int{1, mostOf(k)} {
					for _, size := range []int{1, mostOf(k)} {
						b, e := Subkey(k, n, rising(size), id, context)
						want(t, "Subkey", b, e, subkeyByHand(t, k, n, rising(size), id, context))
					}
				}
			}
		}
	}
}

func TestSubkeysAreUnlike(t *testing.T) { // P6.3: each number, each context has its own
	for _, k := range kinds {
		seen := map[string]string{}
		for _, id := range someIDs() {
			for _, context := range []string{"", "a", "b", "ab"} {
				b, e := Subkey(k, 32, []byte("m"), id, context)
				wantOK(t, e)
				name := hex.EncodeToString(number(id)) + context
				if other, there := seen[string(b)]; there {
					t.Errorf("kind %d: %s and %s have one key", k, name, other)
				}
				seen[string(b)] = name
			}
		}
	}
}

func TestSubkeyRefuses(t *testing.T) { // P6.3, P2: ErrArg, ErrKey, ErrContext, and then Make's
	no := func(what string, k api.Kind, n int, master []byte, context string, right api.Errno) {
		t.Helper()
		b, e := Subkey(k, n, master, 1, context)
		wantNo(t, what, b, e, right)
	}
	for _, k := range noKinds {
		no("kind", k, 1, rising(1), "", api.ErrArg)
		no("kind and all", k, -1, nil, strings.Repeat("x", 17), api.ErrArg)
	}
	for _, k := range kinds {
		most, context := mostOf(k), strings.Repeat("x", saltOf(k))
		no("no master", k, 1, nil, "", api.ErrKey)
		no("an empty master and all behind", k, 0, []byte{}, context+"x", api.ErrKey)
		no("context", k, 1, rising(1), context+"x", api.ErrContext)
		no("a context of noughts", k, 1, rising(1), strings.Repeat("\x00", saltOf(k)+1), api.ErrContext)
		no("a long context", k, 1, rising(1), strings.Repeat("x", 1<<16), api.ErrContext)
		no("context and all behind", k, 0, rising(most+1), context+"x", api.ErrContext)
		no("a long master", k, 1, rising(most+1), context, api.ErrKey)
		for _, n := range badLengths(k) {
			no("digest", k, n, rising(1), context, api.ErrDigest)
			no("digest and a long master", k, n, rising(most+1), context, api.ErrDigest)
		}
	}
}

func TestDeriveRefuses(t *testing.T) { // P6.3, P2: also without ids
	no := func(what string, k api.Kind, master []byte, context string, right api.Errno) {
		t.Helper()
		for _, ids := range [][]uint64{nil, {}, {0}, {1, 2}} {
			b, e := Derive(k, master, context, ids...)
			wantNo(t, what, b, e, right)
		}
	}
	for _, k := range noKinds {
		no("kind", k, rising(1), "", api.ErrArg)
		no("kind and all", k, nil, strings.Repeat("x", 17), api.ErrArg)
	}
	for _, k := range kinds {
		most, context := mostOf(k), strings.Repeat("x", saltOf(k))
		no("no master", k, nil, "", api.ErrKey)
		no("an empty master and context", k, []byte{}, context+"x", api.ErrKey)
		no("context", k, rising(1), context+"x", api.ErrContext)
		no("context and a long master", k, rising(most+1), context+"x", api.ErrContext)
		no("a long master", k, rising(most+1), context, api.ErrKey)
	}
}

func TestDerive(t *testing.T) { // P6.3: one id behind the other
	for _, k := range kinds {
		for _, context := range []string{"", "c", strings.Repeat("x", saltOf(k))} {
			for _, size := range []int{1, 7, mostOf(k)} {
				right := rising(size)
				var ids []uint64
				b, e := Derive(k, rising(size), context)
				want(t, "Derive of no ids", b, e, right)
				for _, id := range []uint64{0, math.MaxUint64, 1, 1, 0, 1 << 40} {
					ids = append(ids, id)
					right = subkeyByHand(t, k, mostOf(k), right, id, context)
					b, e = Derive(k, rising(size), context, ids...)
					want(t, "Derive", b, e, right)
				}
			}
		}
	}
}

func TestDeriveInTwoParts(t *testing.T) { // P6.5
	r := rand.New(rand.NewSource(8))
	for _, k := range kinds {
		for range 20 {
			ids := make([]uint64, r.Intn(6))
			for i := range ids {
				ids[i] = r.Uint64()
			}
			master := rising(1 + r.Intn(mostOf(k)))
			right, e := Derive(k, master, "way", ids...)
			wantOK(t, e)
			for cut := range len(ids) + 1 {
				half, e := Derive(k, master, "way", ids[:cut]...)
				wantOK(t, e)
				b, e := Derive(k, half, "way", ids[cut:]...)
				want(t, "Derive in two parts", b, e, right)
			}
		}
	}
}

func TestKeysAreTheirOwn(t *testing.T) { // P4
	for _, k := range kinds {
		wantOwn(t, "Subkey", func(a [][]byte) []byte {
			b, _ := Subkey(k, 9, a[0], 3, "c")
			return b
		}, rising(7))
		for _, ids := range [][]uint64{nil, {1}, {1, 2}} {
			wantOwn(t, "Derive", func(a [][]byte) []byte {
				b, _ := Derive(k, a[0], "c", ids...)
				return b
			}, rising(7))
		}
		ids := []uint64{5, 6, 7}
		if _, e := Derive(k, rising(7), "c", ids[:2]...); e != api.OK || ids[0] != 5 || ids[1] != 6 || ids[2] != 7 {
			t.Errorf("kind %d: ids %d, %d", k, ids, e)
		}
		// The answer of no ids is a copy, not the master itself.
		master := rising(7)
		b, _ := Derive(k, master, "c")
		spoil(master)
		if !bytes.Equal(b, rising(7)) {
			t.Errorf("kind %d: a master that goes on in its answer", k)
		}
	}
}
