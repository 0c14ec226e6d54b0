package tree

import (
	"bytes"
	"fmt"
	"math"
	"math/rand"
	"runtime"
	"slices"
	"testing"

	"quern/api"
)

func TestStreamExamples(t *testing.T) { // the chapter's examples
	s := newStream(t, plan())
	if s.Held() != 0 || len(s.Open()) != 0 {
		t.Errorf("of none: Held %d, Open %v", s.Held(), s.Open())
	}
	none, e := Hash(plan(), nil)
	want(t, "Sum of none", s.Sum(), e, none)
	write(t, s, []byte("12345678"))
	if s.Held() != 4 || !slices.Equal(s.Open(), []int{1}) {
		t.Errorf("8 bytes: Held %d, Open %v", s.Held(), s.Open())
	}
	write(t, s, []byte("9"))
	if s.Held() != 1 || !slices.Equal(s.Open(), []int{0, 1}) {
		t.Errorf("9 bytes: Held %d, Open %v", s.Held(), s.Open())
	}
}

func TestOnePiece(t *testing.T) { // P10.4, P10.5: at all edges
	edges(func(what string, tree api.Tree, data []byte) {
		s := newStream(t, tree)
		write(t, s, data)
		wantAll(t, what, s, tree, data)
	})
}

func TestByteByByte(t *testing.T) { // P10.4, P10.5, P10.6: all that is told behind each byte, each Sum against Hash
	for _, k := range kinds {
		for _, fanout := range []int{0, 2, 3, 255} {
			for _, depth := range []int{2, 3, 4, 255} {
				for _, tree := range []api.Tree{bare(k, fanout, depth, 2), grown(k, fanout, depth, 3)} {
					data := pattern(61)
					s := newStream(t, tree)
					for n := range data {
						wantState(t, fmt.Sprintf("%v, %d bytes", tree, n), s, tree, n)
						digest, e := Hash(tree, data[:n])
						want(t, "Sum", s.Sum(), e, digest)
						write(t, s, data[n:n+1])
					}
					wantAll(t, fmt.Sprint(tree), s, tree, data)
				}
			}
		}
	}
}

func TestPieces(t *testing.T) { // P10.6: pieces that end just at a leaf's end, one byte beside it and elsewhere, with empty ones between
	for _, k := range kinds {
		for _, tree := range []api.Tree{grown(k, 2, 255, 8), bare(k, 3, 3, 8), bare(k, 0, 2, 8), bare(k, 2, 2, 8)} {
			data := pattern(8*30 + 5)
			right, e := Hash(tree, data)
			wantOK(t, e)
			for _, step := range []int{1, 2, 7, 8, 9, 15, 16, 17, 24, 63, 64, 65, 200, 1000} {
				asked, quiet := newStream(t, tree), newStream(t, tree)
				taken := 0
				for piece := range slices.Chunk(data, step) {
					write(t, asked, nil)
					write(t, asked, piece)
					write(t, asked, []byte{})
					write(t, quiet, piece)
					taken += len(piece)
					wantAll(t, fmt.Sprintf("pieces of %d", step), asked, tree, data[:taken])
					wantState(t, "a fork", asked.Fork(), tree, taken)
				}
				want(t, "Sum", asked.Sum(), e, right)
				want(t, "Sum of one that was asked nothing", quiet.Sum(), e, right)
			}
		}
	}
}

func TestHeldAndOpenByHand(t *testing.T) { // P10.5
	for _, c := range []struct {
		fanout, depth, taken, held int
		open                       []int
	}{
		{2, 255, 0, 0, nil},
		{2, 255, 3, 3, nil},
		{2, 255, 4, 4, nil},
		{2, 255, 5, 1, []int{1}},
		{2, 255, 8, 4, []int{1}},
		{2, 255, 9, 1, []int{0, 1}},
		{2, 255, 16, 4, []int{1, 1}},
		{2, 255, 17, 1, []int{0, 0, 1}},
		{2, 255, 4*7 + 2, 2, []int{1, 1, 1}},
		{2, 255, 4*64 + 1, 1, []int{0, 0, 0, 0, 0, 0, 1}},
		{3, 255, 12, 4, []int{2}},
		{3, 255, 13, 1, []int{0, 1}},
		{3, 255, 4*26 + 4, 4, []int{2, 2, 2}},
		{255, 255, 4*254 + 4, 4, []int{254}},
		{255, 255, 4*255 + 1, 1, []int{0, 1}},
		{0, 2, 4*1000 + 1, 1, []int{1000}},
		{0, 255, 4*1000 + 4, 4, []int{1000}},
		{2, 2, 4*1000 + 1, 1, []int{1000}},
		{2, 3, 4*1000 + 1, 1, []int{0, 500}},
		{2, 4, 4*1000 + 1, 1, []int{0, 0, 250}},
		{2, 4, 4*1003 + 1, 1, []int{1, 1, 250}},
		{255, 2, 4*300 + 1, 1, []int{300}},
	} {
		for _, k := range kinds {
			tree := bare(k, c.fanout, c.depth, 4)
			s := newStream(t, tree)
			write(t, s, pattern(c.taken))
			if s.Held() != c.held || !slices.Equal(s.Open(), c.open) {
				t.Errorf("fanout %d, depth %d, %d bytes: Held %d, Open %v, want %d, %v", c.fanout, c.depth, c.taken, s.Held(), s.Open(), c.held, c.open)
			}
		}
	}
}

func TestStreamsAreSmall(t *testing.T) { // P10.6: no more than Fanout - 1 in any row but that below the bound one; P10.5: at most Leaf held
	for _, k := range kinds {
		for _, fanout := range []int{0, 2, 3, 5} {
			for _, depth := range []int{2, 3, 4, 5, 255} {
				tree := bare(k, fanout, depth, 2)
				s := newStream(t, tree)
				for range 400 {
					write(t, s, []byte("a"))
					open := s.Open()
					if n := len(open); n > 0 && open[n-1] == 0 || s.Held() < 1 || s.Held() > 2 {
						t.Fatalf("fanout %d, depth %d: Held %d, Open %v", fanout, depth, s.Held(), open)
					}
					for row, n := range open {
						if fanout != 0 && row+1 != depth-1 && n > fanout-1 {
							t.Fatalf("fanout %d, depth %d: Open %v", fanout, depth, open)
						}
					}
				}
			}
		}
	}
}

func TestRoomyLeavesTakeNoRoom(t *testing.T) { // P10.6: what a stream keeps grows with what it took, not with Leaf
	var before, behind runtime.MemStats
	runtime.ReadMemStats(&before)
	for _, k := range kinds {
		tree := bare(k, 2, 255, math.MaxUint32)
		s := newStream(t, tree)
		write(t, s, pattern(1000))
		wantAll(t, "a short message", s, tree, pattern(1000))
	}
	runtime.ReadMemStats(&behind)
	if n := behind.TotalAlloc - before.TotalAlloc; n > 1<<24 {
		t.Errorf("%d bytes were taken up", n)
	}
}

func TestReset(t *testing.T) { // P10.4
	for _, k := range kinds {
		for _, tree := range []api.Tree{grown(k, 2, 255, 4), bare(k, 0, 2, 4), grown(k, 3, 3, 4)} {
			for _, n := range []int{0, 3, 4, 5, 8, 9, 100} {
				s := newStream(t, tree)
				for _, next := range []int{n, 0, 9, 2 * n, 1} {
					write(t, s, pattern(next))
					wantAll(t, "ahead of Reset", s, tree, pattern(next))
					wantErrno(t, "Reset", s.Reset(), api.OK)
					wantAll(t, "behind Reset", s, tree, nil)
					write(t, s, rising(n))
					wantAll(t, "another message", s, tree, rising(n))
					wantErrno(t, "Reset", s.Reset(), api.OK)
				}
			}
		}
	}
}

func TestFork(t *testing.T) { // P10.4, P5: both go on by themselves, and Reset of one leaves the other
	for _, k := range kinds {
		for _, tree := range []api.Tree{grown(k, 2, 255, 4), bare(k, 0, 2, 4), grown(k, 3, 3, 4)} {
			for n := range 40 {
				s := newStream(t, tree)
				write(t, s, pattern(n))
				f := s.Fork()
				wantAll(t, "the fork", f, tree, pattern(n))
				one := append(pattern(n), rising(13)...)
				two := append(pattern(n), bytes.Repeat([]byte{0xee}, 22)...)
				for i := range 22 { // in turn, so that each would overwrite what the other has laid down
					if i < 13 {
						write(t, s, one[n+i:n+i+1])
					}
					write(t, f, two[n+i:n+i+1])
				}
				wantAll(t, "the source", s, tree, one)
				wantAll(t, "the fork", f, tree, two)
				wantErrno(t, "Reset", s.Reset(), api.OK)
				wantAll(t, "the fork, its source set back", f, tree, two)
				write(t, s, one)
				wantErrno(t, "Reset", f.Reset(), api.OK)
				wantAll(t, "the source, its fork set back", s, tree, one)
				wantAll(t, "the fork, set back", f, tree, nil)
			}
		}
	}
}

func TestNotMade(t *testing.T) { // P1, P10.4, P10.5
	for _, s := range []*Stream{nil, {}, new(Stream)} {
		for range 2 { // a refused call makes it no stream
			for _, b := range [][]byte{nil, {}, []byte("abc"), pattern(1000)} {
				wantErrno(t, "Write", s.Write(b), api.ErrZero)
			}
			wantErrno(t, "Reset", s.Reset(), api.ErrZero)
			if b, o, f := s.Sum(), s.Open(), s.Fork(); len(b) != 0 || len(o) != 0 || f != nil {
				t.Errorf("Sum %x, Open %v, Fork %v", b, o, f)
			}
			if s.Taken() != 0 || s.Held() != 0 {
				t.Errorf("Taken %d, Held %d", s.Taken(), s.Held())
			}
		}
	}
}

func TestStreamsKeepNothingOfOthers(t *testing.T) { // P4: what is handed in is not changed and not kept, answers are new memory
	for _, k := range kinds {
		tree := grown(k, 2, 4, 4)
		given, stillTree := roomyTree(tree)
		s := newStream(t, given)
		for _, piece := range [][]byte{pattern(3), pattern(17), pattern(4)} {
			b, still := roomy(piece)
			write(t, s, b)
			if !still() {
				t.Errorf("Write has changed what it was handed")
			}
			spoil(b)
		}
		if !stillTree() {
			t.Errorf("the tree has changed")
		}
		spoil(given.Key)
		spoil(given.Salt)
		spoil(given.Personal)
		data := slices.Concat(pattern(3), pattern(17), pattern(4))
		f := s.Fork()
		for _, one := range []*Stream{s, f} {
			for range 3 {
				wantAll(t, "behind what was spoiled", one, tree, data)
				spoil(one.Sum())
				open := one.Open()
				clear(open[:cap(open)])
			}
			write(t, one, pattern(9))
			wantAll(t, "written on", one, tree, append(bytes.Clone(data), pattern(9)...))
			wantErrno(t, "Reset", one.Reset(), api.OK)
			write(t, one, data)
			wantAll(t, "behind Reset", one, tree, data)
		}
	}
}

// byChance tells some tree that may be, with few nodes for short messages.
func byChance(r *rand.Rand) api.Tree {
	k := kinds[r.Intn(2)]
	z := sizesOf(k)
	tree := api.Tree{
		Kind: k, Digest: 1 + r.Intn(z.most), Inner: 1 + r.Intn(z.most),
		Fanout: []int{0, 2, 2, 3, 4, 7, 255}[r.Intn(7)], Depth: []int{2, 3, 4, 5, 254, 255}[r.Intn(6)], Leaf: uint32(1 + r.Intn(20)),
		Key: pattern(r.Intn(z.most + 1)),
	}
	if r.Intn(2) == 0 {
		tree.Salt = pattern(z.salt)
	}
	if r.Intn(2) == 0 {
		tree.Personal = rising(z.salt)
	}
	return tree
}

func TestTreesByChance(t *testing.T) { // P10.1, P10.2
	r := rand.New(rand.NewSource(1))
	for range 400 {
		tree := byChance(r)
		data := make([]byte, r.Intn(300))
		r.Read(data)
		wantTree(t, fmt.Sprintf("%v, %d bytes", tree, len(data)), tree, data)
	}
}

func TestCallsByChance(t *testing.T) { // P10.4, P10.5, P10.6, G3: every order of calls, on streams and forks of them
	r := rand.New(rand.NewSource(10))
	type model struct {
		tree api.Tree
		data []byte
	}
	for range 200 {
		var streams [3]*Stream
		var models [3]model
		for i := range streams {
			models[i] = model{tree: byChance(r)}
			streams[i] = newStream(t, models[i].tree)
		}
		for range 40 {
			i, j := r.Intn(3), r.Intn(3)
			s, m := streams[i], &models[i]
			switch r.Intn(8) {
			case 0, 1, 2, 3:
				b := pattern(r.Intn(50))
				write(t, s, b)
				m.data = append(bytes.Clone(m.data), b...)
			case 4, 5:
				wantAll(t, "in between", s, m.tree, m.data)
			case 6:
				streams[i], models[i] = streams[j].Fork(), models[j]
			case 7:
				if r.Intn(3) == 0 {
					wantErrno(t, "Reset", s.Reset(), api.OK)
					m.data = nil
				}
			}
			wantState(t, "behind a call", streams[i], models[i].tree, len(models[i].data))
		}
		for i := range streams {
			wantAll(t, "at the end", streams[i], models[i].tree, models[i].data)
		}
		if t.Failed() {
			return
		}
	}
}
