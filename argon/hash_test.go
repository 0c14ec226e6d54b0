package argon_test

import (
	"bytes"
	"fmt"
	"math/rand"
	"testing"

	"quern/api"
	"quern/argon"
)

// wantTag holds the three calls that know a tag against it.
func wantTag(t *testing.T, a api.Argon, in words, right []byte) {
	t.Helper()
	got, e := argon.Hash(a, in[0], in[1], in[2], in[3])
	wantBytes(t, fmt.Sprintf("Hash of %+v", a), got, e, right)
	got, e = argon.Beside(a, in[0], in[1], in[2], in[3])
	wantBytes(t, fmt.Sprintf("Beside of %+v", a), got, e, right)
	is, e := argon.Verify(a, right, in[0], in[1], in[2], in[3])
	if !is || e != api.OK {
		t.Errorf("Verify of %+v: %t %d", a, is, e)
	}
}

func TestExampleTags(t *testing.T) { // P20.5: the chapter's first example
	for kind, tag := range []string{
		"512b391b6f1162975371d30919734294f868e3be3984f3c1a13a4db9fabe4acb",
		"c814d9d1dc7f37aa13f0d77f2494bda1c8de6b016dd388d29952a4c4672b6ce8",
		"0d640df58d78766c08c037a34a8b53c9d01ef0452d75b65eb52520e96b01e659",
	} {
		wantTag(t, chapters(kind), examples(), unhex(t, tag))
	}
}

func TestTagsToldByTheOtherProgram(t *testing.T) { // P20.5
	for _, x := range toldTags {
		wantTag(t, x.a, words{pattern(x.n[0]), pattern(x.n[1]), rising(x.n[2]), rising(x.n[3])}, unhex(t, x.tag))
	}
}

func TestTagsByWords(t *testing.T) { // P20.5
	t.Parallel()
	r := rand.New(rand.NewSource(27))
	for _, a := range memories() {
		a.Tag = []int{4, 5, 31, 63, 64, 65, 96, 97, 128, 1023, 1024}[r.Intn(11)]
		in := someWords(r)
		wantTag(t, a, in, hashByWords(t, a, in))
	}
}

func TestTagsOfEachLength(t *testing.T) { // P20.5: as many bytes as are asked for
	a := setting(api.ArgonID, 8, 1, 1)
	in := examples()
	for tag := 4; tag <= 1024; tag += 1 + tag/70 {
		a.Tag = tag
		got, e := argon.Hash(a, in[0], in[1], in[2], in[3])
		wantBytes(t, fmt.Sprint("a tag of ", tag), got, e, hashByWords(t, a, in))
		if len(got) != tag {
			t.Errorf("a tag of %d has %d bytes", tag, len(got))
		}
	}
}

func TestTagsAtTheBoundsOfTheWords(t *testing.T) { // P20.5, P3, Limits
	a := setting(api.ArgonD, 16, 1, 2)
	for _, n := range [][4]int{{0, 8, 0, 0}, {65536, 64, 64, 1024}, {65536, 8, 0, 0}, {0, 64, 0, 0}, {0, 8, 64, 0}, {0, 8, 0, 1024}, {1, 9, 1, 1}} {
		in := words{pattern(n[0]), rising(n[1]), pattern(n[2]), rising(n[3])}
		wantTag(t, a, in, hashByWords(t, a, in))
	}
	in := words{nil, rising(8), nil, nil}
	right := hashByWords(t, a, in)
	wantTag(t, a, in, right)
	wantTag(t, a, words{{}, rising(8), make([]byte, 0, 5), rising(3)[:0]}, right)
}

func TestBesideIsHash(t *testing.T) { // P20.5: all kinds, passes and lanes
	t.Parallel()
	r := rand.New(rand.NewSource(28))
	for kind := range 3 {
		for passes := 1; passes <= 16; passes++ {
			for lanes := 1; lanes <= 8; lanes++ {
				a := setting(kind, 8*lanes+r.Intn(40), passes, lanes)
				in := someWords(r)
				right, e := argon.Hash(a, in[0], in[1], in[2], in[3])
				if e != api.OK || len(right) != 32 {
					t.Fatalf("Hash of %+v: %d", a, e)
				}
				got, e := argon.Beside(a, in[0], in[1], in[2], in[3])
				wantBytes(t, fmt.Sprintf("Beside of %+v", a), got, e, right)
			}
		}
	}
}

func TestBesideOfMuchMemory(t *testing.T) { // P20.5, Limits
	t.Parallel()
	for kind := range 3 {
		a := setting(kind, 4096, 3+13*(kind/2), 8)
		in := examples()
		right, e := argon.Hash(a, in[0], in[1], in[2], in[3])
		if e != api.OK {
			t.Fatal(e)
		}
		wantTag(t, a, in, right)
	}
}

func TestTagsHangOnAll(t *testing.T) { // P20.5: on each number of the setting and each part of the words
	in := examples()
	seen := map[string]string{}
	add := func(what string, a api.Argon, in words) {
		tag, e := argon.Hash(a, in[0], in[1], in[2], in[3])
		if e != api.OK {
			t.Fatalf("%s: %d", what, e)
		}
		if other, is := seen[string(tag[:4])]; is {
			t.Errorf("%s has the tag of %s", what, other)
		}
		seen[string(tag[:4])] = what
	}
	for kind := range 3 {
		for memory := 32; memory < 36; memory++ {
			for passes := 1; passes < 4; passes++ {
				for lanes := 1; lanes < 5; lanes++ {
					for _, tag := range []int{4, 32, 33} {
						a := setting(kind, memory, passes, lanes)
						a.Tag = tag
						add(fmt.Sprintf("%+v", a), a, in)
					}
				}
			}
		}
	}
	for i := range in {
		for at := range in[i] {
			other := in
			other[i] = bytes.Clone(in[i])
			other[i][at] ^= 0x80
			add(fmt.Sprintf("another byte %d of part %d", at, i), chapters(0), other)
		}
		other := in
		other[i] = append(bytes.Clone(in[i]), 0)
		add(fmt.Sprintf("a byte more of part %d", i), chapters(0), other)
	}
}

func TestVerifyOfOneBit(t *testing.T) { // P20.5
	t.Parallel()
	in := examples()
	for kind := range 3 {
		a := chapters(kind)
		a.Passes = 1
		tag, e := argon.Hash(a, in[0], in[1], in[2], in[3])
		if e != api.OK {
			t.Fatal(e)
		}
		for bit := range 256 {
			other := bytes.Clone(tag)
			other[bit/8] ^= 1 << (bit % 8)
			if is, e := argon.Verify(a, other, in[0], in[1], in[2], in[3]); is || e != api.OK {
				t.Errorf("kind %d, bit %d changed: %t %d", kind, bit, is, e)
			}
		}
		if is, e := argon.Verify(a, tag, in[0], in[1], in[2], in[3]); !is || e != api.OK {
			t.Errorf("kind %d, the tag: %t %d", kind, is, e)
		}
		if is, e := argon.Verify(a, make([]byte, 32), in[0], in[1], in[2], in[3]); is || e != api.OK {
			t.Errorf("kind %d, noughts: %t %d", kind, is, e)
		}
	}
}

func TestVerifyOfOtherWords(t *testing.T) { // P20.5
	a := chapters(api.ArgonID)
	in := examples()
	tag, _ := argon.Hash(a, in[0], in[1], in[2], in[3])
	for i := range in {
		other := in
		other[i] = append(bytes.Clone(in[i]), 1)
		if is, e := argon.Verify(a, tag, other[0], other[1], other[2], other[3]); is || e != api.OK {
			t.Errorf("another part %d: %t %d", i, is, e)
		}
	}
	for _, other := range []api.Argon{chapters(0), chapters(1), setting(2, 33, 3, 4), setting(2, 32, 2, 4), setting(2, 32, 3, 3)} {
		if is, e := argon.Verify(other, tag, in[0], in[1], in[2], in[3]); is || e != api.OK {
			t.Errorf("%+v: %t %d", other, is, e)
		}
	}
}

func TestVerifyOfNoTag(t *testing.T) { // P20.5, P2, P3: ErrTag, behind all others
	in := examples()
	for _, n := range []int{4, 32, 64, 1024} {
		a := chapters(api.ArgonID)
		a.Tag = n
		tag, e := argon.Hash(a, in[0], in[1], in[2], in[3])
		if e != api.OK {
			t.Fatal(e)
		}
		for _, bad := range [][]byte{nil, {}, tag[:1], tag[:n-1], append(bytes.Clone(tag), 0), make([]byte, 0, n), bytes.Repeat(tag, 2), make([]byte, 1<<16)} {
			if is, e := argon.Verify(a, bad, in[0], in[1], in[2], in[3]); is || e != api.ErrTag {
				t.Errorf("a tag of %d, where %d are asked for: %t %d, want ErrTag", len(bad), n, is, e)
			}
			if is, e := argon.Verify(a, bad, in[0], in[1][:7], in[2], in[3]); is || e != api.ErrGrain {
				t.Errorf("a tag of %d and a short salt: %t %d, want ErrGrain", len(bad), is, e)
			}
			if is, e := argon.Verify(a, bad, in[0], in[1], rising(65), in[3]); is || e != api.ErrLong {
				t.Errorf("a tag of %d and a long secret: %t %d, want ErrLong", len(bad), is, e)
			}
		}
	}
}
