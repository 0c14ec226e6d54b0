package slice_test

import (
	"bytes"
	"fmt"
	"sync"
	"testing"

	"quern/api"
	"quern/slice"
)

// roomy tells a copy of a list with marks in the room behind its end, and a function that tells whether list and room are as they were.
func roomy(list []byte) ([]byte, func() bool) {
	whole := append(bytes.Clone(list), bytes.Repeat([]byte{0xa5}, 300)...)
	before := bytes.Clone(whole)
	return whole[:len(list)], func() bool { return bytes.Equal(whole, before) }
}

// roomyTree lays a tree's lists likewise.
func roomyTree(x api.Tree) (api.Tree, func() bool) {
	var stills [3]func() bool
	x.Key, stills[0] = roomy(x.Key)
	x.Salt, stills[1] = roomy(x.Salt)
	x.Personal, stills[2] = roomy(x.Personal)
	return x, func() bool { return stills[0]() && stills[1]() && stills[2]() }
}

// spoil overwrites a list and the room behind its end.
func spoil(list []byte) {
	whole := list[:cap(list)]
	for i := range whole {
		whole[i] ^= 0xff
	}
}

// wantOwn makes a call whose answers are lists twice, spoils what was handed in and each of the first answers, and holds the others.
func wantOwn(t *testing.T, what string, still func() bool, handed [][]byte, ask func() [][]byte) {
	t.Helper()
	first, second := ask(), ask()
	if !still() {
		t.Errorf("%s: what was handed in has changed", what)
	}
	right := make([][]byte, len(second))
	for i, b := range second {
		right[i] = bytes.Clone(b)
	}
	wantStill := func(when string, got [][]byte, from int) {
		t.Helper()
		for i := from; i < len(right); i++ {
			if !bytes.Equal(got[i], right[i]) {
				t.Errorf("%s, %s: list %d is %x, want %x", what, when, i, got[i], right[i])
			}
		}
	}
	for i := range first {
		spoil(first[i])
		wantStill("an answer spoilt", first, i+1)
	}
	wantStill("answers spoilt", second, 0)
	if !still() {
		t.Errorf("%s: an answer shares memory with what was handed in", what)
	}
	wantStill("asked again", ask(), 0)
	for _, b := range handed {
		spoil(b)
	}
	wantStill("what was handed in spoilt", second, 0)
	for _, b := range handed {
		spoil(b)
	}
	wantStill("put back", ask(), 0)
}

// memoryTrees have lists of all kinds.
func memoryTrees() []api.Tree {
	return append(weakTrees(), grown(api.Big, 2, 255, 3), grown(api.Small, 0, 2, 4), grown(api.Big, 3, 3, 64), grown(api.Small, 255, 255, 1))
}

func TestOwnMemory(t *testing.T) { // P4: what is handed in is not changed nor kept, and answers are new memory, spare room too
	for _, given := range memoryTrees() {
		for _, n := range []int{0, 1, 4, 13, 70} {
			x, stillTree := roomyTree(given)
			data, stillData := roomy(pattern(n))
			right, _, root := laid(t, x, data)
			form, stillForm := roomy(right)
			digest, stillDigest := roomy(root)
			still := func() bool { return stillTree() && stillData() && stillForm() && stillDigest() }
			handed := [][]byte{x.Key, x.Salt, x.Personal, data, form, digest}
			what := fmt.Sprintf("%s, %d bytes", named(x), n)
			wantOwn(t, "Lay, "+what, still, handed, func() [][]byte {
				b, e := slice.Lay(x, data)
				wantErrno(t, "Lay", e, api.OK)
				return [][]byte{b}
			})
			wantOwn(t, "Read, "+what, still, handed, func() [][]byte {
				b, _, e := slice.Read(x, digest, form)
				wantErrno(t, "Read", e, api.OK)
				return [][]byte{b}
			})
			for _, p := range [][2]uint64{{0, mostNumber}, {1, 5}, {3, 0}, {90, 1}} {
				wantOwn(t, "Part, "+what, still, handed, func() [][]byte {
					b, _, e := slice.Part(x, form, p[0], p[1])
					wantErrno(t, "Part", e, api.OK)
					return [][]byte{b}
				})
				list, _, e := slice.Part(x, form, p[0], p[1])
				wantErrno(t, "Part", e, api.OK)
				part, stillPart := roomy(list)
				wantOwn(t, "ReadPart, "+what, func() bool { return still() && stillPart() }, append(handed, part), func() [][]byte {
					b, _, _, e := slice.ReadPart(x, digest, part, p[0], p[1])
					wantErrno(t, "ReadPart", e, api.OK)
					return [][]byte{b}
				})
			}
		}
	}
}

func TestClashOwnMemory(t *testing.T) { // P4: no two lists of the two calls share memory
	c := chance(50)
	for _, given := range weakTrees() {
		for _, keep := range []int{0, 1, 2} {
			x, stillTree := roomyTree(given)
			data, stillData := roomy(pattern(12))
			_, pieces, digest := laid(t, x, data)
			forged, ok := forge(t, &c, x, digest, 12, 0, mostNumber, pieces[:keep])
			if !ok {
				continue
			}
			part, stillPart := roomy(forged)
			still := func() bool { return stillTree() && stillData() && stillPart() }
			wantOwn(t, "Clash, "+named(x), still, [][]byte{x.Key, x.Salt, x.Personal, data, part}, func() [][]byte {
				a, b, e := slice.Clash(x, data, part, 0, mostNumber)
				wantErrno(t, "Clash", e, api.OK)
				return [][]byte{a.Block, a.Key, a.Data, b.Block, b.Key, b.Data}
			})
		}
	}
}

func TestReaderKeepsNothing(t *testing.T) { // P4: a tree, a digest and bytes are changed behind each call, and so is what was taken out
	for _, given := range memoryTrees() {
		for _, n := range []int{0, 1, 13, 70} {
			for _, size := range []int{1, 6, 1000} {
				form, _, root := laid(t, given, pattern(n))
				x, stillTree := roomyTree(given)
				digest, stillDigest := roomy(root)
				r := readerOf(t, x, digest)
				if !stillTree() || !stillDigest() {
					t.Errorf("New changes what is handed in")
				}
				for _, b := range [][]byte{x.Key, x.Salt, x.Personal, digest} {
					spoil(b)
				}
				var got []byte
				for from := 0; from < len(form); from += size {
					b, still := roomy(form[from:min(from+size, len(form))])
					wantErrno(t, "Write", r.Write(b), api.OK)
					taken := r.Take()
					got = append(got, taken...)
					if !still() {
						t.Errorf("Write changes what is handed in")
					}
					spoil(taken)
					if !still() {
						t.Errorf("Take shares memory with what was handed in")
					}
					spoil(b)
				}
				if !bytes.Equal(got, pattern(n)) || !r.Done() {
					t.Errorf("%s, by %d: %x, done %v", named(given), size, got, r.Done())
				}
			}
		}
	}
}

func TestTakenStays(t *testing.T) { // P4: what was taken out stays as it is, whatever comes later
	x := grown(api.Big, 2, 255, 2)
	form, _, digest := laid(t, x, pattern(40))
	r := readerOf(t, x, digest)
	var lists [][]byte
	for i := range form {
		wantErrno(t, "Write", r.Write(form[i:i+1]), api.OK)
		lists = append(lists, r.Take())
	}
	r.Write([]byte{1})
	if got := bytes.Join(lists, nil); !bytes.Equal(got, pattern(40)) {
		t.Errorf("%x", got)
	}
}

func TestReadersBesideOneAnother(t *testing.T) { // P5, P18.7: two readers know nothing of one another
	for _, k := range kinds {
		x := grown(k, 2, 255, 3)
		one, _, first := laid(t, x, pattern(30))
		two, _, second := laid(t, x, rising(41))
		a, b := follow(t, "one", x, first), follow(t, "two", x, second)
		bad := follow(t, "bad", x, first)
		for i := range max(len(one), len(two)) {
			if i < len(one) {
				a.write(one[i : i+1])
			}
			if i < len(two) {
				b.write(two[i : i+1])
				bad.write(two[i : i+1])
			}
			if i%5 == 0 {
				a.take()
				b.take()
			}
		}
		a.take()
		b.take()
		bad.end()
		if !a.reader.Done() || !b.reader.Done() {
			t.Errorf("not done")
		}
	}
}

func TestRefusedCallsChangeNothing(t *testing.T) { // P2, P18.7: an open reader beside refused calls
	x := bare(api.Big, 2, 255, 2)
	form, _, digest := laid(t, x, pattern(9))
	f := follow(t, "open", x, digest)
	for i := range form {
		f.write(form[i : i+1])
		slice.New(x, nil)
		slice.Read(x, nil, form)
		slice.Part(x, form[:20], 0, 1)
		slice.ReadPart(x, digest, form, 1, 1)
		slice.Clash(x, nil, form, 0, 1)
		slice.Length(x, mostNumber)
		slice.Lay(api.Tree{}, form)
		f.look()
	}
	f.take()
	if !f.reader.Done() {
		t.Errorf("not done")
	}
}

func TestSideBySide(t *testing.T) { // P5: from several goroutines at a time, with a reader each
	x := grown(api.Big, 2, 255, 3)
	y := weakTrees()[0]
	form, _, digest := laid(t, x, pattern(50))
	_, _, weakDigest := laid(t, y, pattern(8))
	c := chance(77)
	part, ok := []byte(nil), false
	for !ok {
		part, ok = forge(t, &c, y, weakDigest, 8, 0, mostNumber, nil)
	}
	first, second, why := slice.Clash(y, pattern(8), part, 0, mostNumber)
	var all sync.WaitGroup
	for i := range 16 {
		all.Go(func() {
			r, _ := slice.New(x, digest)
			var got []byte
			for from := 0; from < len(form); from += i + 1 {
				r.Write(form[from:min(from+i+1, len(form))])
				got = append(got, r.Take()...)
			}
			if !bytes.Equal(got, pattern(50)) || !r.Done() {
				t.Errorf("a reader beside others: %x, done %v", got, r.Done())
			}
			laid, e := slice.Lay(x, pattern(50))
			wantBytes(t, "Lay", laid, e, form)
			wantRead(t, "beside others", x, digest, form, pattern(50), 0, api.OK)
			a, b, e := slice.Clash(y, pattern(8), part, 0, mostNumber)
			if e != why || !sameCall(a, first) || !sameCall(b, second) {
				t.Errorf("Clash beside others: error %d", e)
			}
		})
	}
	all.Wait()
}
