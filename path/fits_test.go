package path

import (
	"bytes"
	"fmt"
	"slices"
	"testing"

	"quern/api"
	"quern/tree"
)

// spoilt is a path that does not fit its tree, or no piece of the leaf's length.
type spoilt struct {
	what string
	path api.Path
}

// misfits are all ways in which a path that fits may cease to: of steps, of digests, of their lengths.
func misfits(p api.Path) []spoilt {
	var list []spoilt
	add := func(what string, change func(*api.Path)) {
		changed := clone(p)
		change(&changed)
		list = append(list, spoilt{what, changed})
	}
	last := len(p.Steps) - 1
	add("no step", func(p *api.Path) { p.Steps = nil })
	add("the first step missing", func(p *api.Path) { p.Steps = p.Steps[1:] })
	add("the last step missing", func(p *api.Path) { p.Steps = p.Steps[:last] })
	add("a step more behind", func(p *api.Path) { p.Steps = append(p.Steps, api.Step{}) })
	add("a step more ahead", func(p *api.Path) { p.Steps = append([]api.Step{{}}, p.Steps...) })
	add("a step twice", func(p *api.Path) { p.Steps = append(p.Steps, p.Steps[last]) })
	add("far more steps", func(p *api.Path) { p.Steps = append(p.Steps, make([]api.Step, 300)...) })
	for i := range p.Steps {
		for side := range 2 {
			at := func(p *api.Path, side int) *[][]byte {
				if side == 0 {
					return &p.Steps[i].Before
				}
				return &p.Steps[i].After
			}
			what := fmt.Sprintf("step %d, side %d: ", i, side)
			add(what+"an empty digest more", func(p *api.Path) { l := at(p, side); *l = append(*l, nil) })
			add(what+"a digest more", func(p *api.Path) { l := at(p, side); *l = append(*l, make([]byte, 8)) })
			n := len(*at(&p, side))
			if n == 0 {
				continue
			}
			add(what+"none", func(p *api.Path) { *at(p, side) = nil })
			add(what+"a digest too few", func(p *api.Path) { l := at(p, side); *l = (*l)[1:] })
			add(what+"a digest twice", func(p *api.Path) { l := at(p, side); *l = append(*l, (*l)[0]) })
			add(what+"a digest moved across", func(p *api.Path) {
				l, other := at(p, side), at(p, 1-side)
				*other = append(*other, (*l)[0])
				*l = (*l)[1:]
			})
			for _, j := range []int{0, n / 2, n - 1} {
				add(what+"an empty digest", func(p *api.Path) { (*at(p, side))[j] = nil })
				add(what+"a digest one byte short", func(p *api.Path) { l := *at(p, side); l[j] = l[j][1:] })
				add(what+"a digest one byte long", func(p *api.Path) { l := *at(p, side); l[j] = append(l[j], 0) })
			}
			if n > 1 {
				add(what+"two digests as one", func(p *api.Path) { l := *at(p, side); l[0], l[1] = slices.Concat(l[0], l[1]), nil })
				add(what+"a byte moved on", func(p *api.Path) { l := *at(p, side); l[0], l[1] = append(l[0], l[1][0]), l[1][1:] })
			}
		}
	}
	return list
}

// formTrees are of both kinds, of several rows or few; Inner has 8 bytes.
func formTrees() []api.Tree {
	var list []api.Tree
	for _, k := range kinds {
		for _, fanout := range []int{0, 2, 3} {
			for _, depth := range []int{2, 3, 255} {
				x := grown(k, fanout, depth, 4)
				x.Inner = 8
				list = append(list, x)
			}
		}
	}
	return list
}

func TestMisfits(t *testing.T) { // PA2, PA3: ErrForm of paths that fit no piece
	for _, x := range formTrees() {
		for _, n := range []int{0, 3, 9, 30} {
			right := build(t, x, pattern(n))
			for leaf, piece := range right.pieces {
				p := right.path(n, leaf)
				for _, c := range misfits(p) {
					wantRefused(t, fmt.Sprintf("%v, %d bytes, leaf %d: %s", x, n, leaf, c.what), x, c.path, piece, api.ErrForm)
				}
				// What was changed in copies left the path itself as it was.
				got, e := Root(x, p, piece)
				want(t, "Root", got, e, right.root())
			}
		}
	}
}

func TestPieces(t *testing.T) { // PA2: ErrForm of a piece that has another length than the leaf; Pack asks for none
	for _, x := range formTrees() {
		for _, n := range []int{0, 1, 4, 9, 30, 32} {
			right := build(t, x, pattern(n))
			for leaf, piece := range right.pieces {
				p := right.path(n, leaf)
				for _, size := range []int{0, 1, 2, 3, 4, 5, 8, 1000} {
					if size == len(piece) {
						continue
					}
					wrong := append(bytes.Clone(piece), make([]byte, 1000)...)[:size]
					what := fmt.Sprintf("%v, %d bytes, leaf %d, a piece of %d", x, n, leaf, size)
					got, e := Root(x, p, wrong)
					wantNo(t, "Root, "+what, got, e, api.ErrForm)
					wantErrno(t, "Check, "+what, Check(x, p, wrong, right.root()), api.ErrForm)
				}
			}
		}
	}
}

func TestOtherHeads(t *testing.T) { // PA2, PA3: a path fits by its Total and Leaf too
	for _, x := range formTrees() {
		data := pattern(30)
		right := build(t, x, data)
		for leaf, piece := range right.pieces {
			for total := range 50 {
				for at := range int(farLeaves(x, uint64(total))) {
					p := right.path(30, leaf)
					p.Total, p.Leaf = uint64(total), uint64(at)
					turns := farTurns(x, p.Total, p.Leaf)
					fits := slices.EqualFunc(turns, p.Steps, func(t turn, s api.Step) bool {
						return t.before == uint64(len(s.Before)) && t.after == uint64(len(s.After))
					})
					what := fmt.Sprintf("%v, %d bytes, leaf %d", x, total, at)
					packed, packing := Pack(x, p)
					got, rooting := Root(x, p, piece)
					if !fits {
						wantNo(t, "Pack, "+what, packed, packing, api.ErrForm)
						wantNo(t, "Root, "+what, got, rooting, api.ErrForm)
						continue
					}
					want(t, "Pack, "+what, packed, packing, append(head(p.Total, p.Leaf), flat(p)...))
					if len(piece) != min(4, total-4*at) {
						wantNo(t, "Root, "+what, got, rooting, api.ErrForm)
						continue
					}
					want(t, "Root, "+what, got, rooting, farRoot(t, x, p, piece))
				}
			}
		}
	}
}

func TestOtherRoots(t *testing.T) { // PA2: ErrProof of another root, a shorter or longer one, none
	for _, k := range kinds {
		for _, x := range []api.Tree{grown(k, 2, 255, 4), bare(k, 0, 2, 4), bare(k, 3, 3, 4)} {
			for _, n := range []int{0, 4, 30} {
				right := build(t, x, pattern(n))
				for leaf, piece := range right.pieces {
					p := right.path(n, leaf)
					root := right.root()
					wrongs := [][]byte{nil, {}, root[:1], root[1:], root[:len(root)-1], append(bytes.Clone(root), 0), append(bytes.Clone(root), root...), make([]byte, len(root))}
					for i := range root {
						other := bytes.Clone(root)
						other[i] ^= 1 << (i % 8)
						wrongs = append(wrongs, other)
					}
					for i, wrong := range wrongs {
						wantErrno(t, fmt.Sprintf("%v, %d bytes, leaf %d, root %d", x, n, leaf, i), Check(x, p, piece, wrong), api.ErrProof)
					}
					wantErrno(t, "Check", Check(x, p, piece, root), api.OK)
					if len(piece) > 0 {
						wantErrno(t, "Check of a shorter piece with another root", Check(x, p, piece[1:], wrongs[0]), api.ErrForm)
					}
				}
			}
		}
	}
}

func TestTurnedBits(t *testing.T) { // PA2: a path with a digest turned in one bit leads elsewhere
	for _, k := range kinds {
		for _, x := range []api.Tree{plan(k), bare(k, 0, 2, 4), grown(k, 3, 3, 4)} {
			right := build(t, x, pattern(30))
			for leaf, piece := range right.pieces {
				p := clone(right.path(30, leaf))
				for _, s := range p.Steps {
					for _, digest := range slices.Concat(s.Before, s.After) {
						for i := range digest {
							digest[i] ^= 1 << (i % 8)
							wantErrno(t, "Check", Check(x, p, piece, right.root()), api.ErrProof)
							got, e := Root(x, p, piece)
							want(t, "Root", got, e, farRoot(t, x, p, piece))
							digest[i] ^= 1 << (i % 8)
						}
					}
				}
				wantErrno(t, "Check", Check(x, p, piece, right.root()), api.OK)
			}
		}
	}
}

func TestRootsThatMeet(t *testing.T) { // PA2: digests of one byte may meet, and then Check is OK
	x := api.Tree{Kind: api.Big, Digest: 1, Fanout: 2, Depth: 255, Leaf: 4, Inner: 1}
	right := build(t, x, pattern(9))
	p := clone(right.path(9, 0))
	meets := 0
	for c := range 256 {
		p.Steps[0].After[0][0] = byte(c)
		root := farRoot(t, x, p, right.pieces[0])
		got, e := Root(x, p, right.pieces[0])
		want(t, "Root", got, e, root)
		why := api.ErrProof
		if bytes.Equal(root, right.root()) {
			why = api.OK
			meets++
		}
		wantErrno(t, "Check", Check(x, p, right.pieces[0], right.root()), why)
	}
	if meets < 1 || meets > 128 {
		t.Errorf("%d of 256 roots are the root", meets)
	}
}

func TestOneLeaf(t *testing.T) { // PA1, PA2: of a message with one leaf there is one step, without digests
	for _, k := range kinds {
		for _, fanout := range []int{0, 2, 255} {
			for _, depth := range []int{2, 255} {
				x := grown(k, fanout, depth, 4)
				for n := range 5 {
					data := pattern(n)
					p, e := Prove(x, data, 0)
					wantPath(t, "Prove", p, e, api.Path{Total: uint64(n), Steps: []api.Step{{}}})
					right, e := tree.Hash(x, data)
					wantOK(t, e)
					for _, steps := range [][]api.Step{{{}}, {{Before: [][]byte{}, After: [][]byte{}}}} {
						got, e := Root(x, api.Path{Total: uint64(n), Steps: steps}, data)
						want(t, "Root", got, e, right)
						packed, e := Pack(x, api.Path{Total: uint64(n), Steps: steps})
						want(t, "Pack", packed, e, head(uint64(n), 0))
					}
					p, e = Unpack(x, head(uint64(n), 0))
					wantPath(t, "Unpack", p, e, api.Path{Total: uint64(n), Steps: []api.Step{{}}})
					wantRefused(t, "no step", x, api.Path{Total: uint64(n)}, data, api.ErrForm)
				}
				wantRefused(t, "a path that is empty", x, api.Path{}, nil, api.ErrForm)
			}
		}
	}
}

func TestPackedBytes(t *testing.T) { // PA3: byte by byte
	p := api.Path{Total: 0x1d, Leaf: 4, Steps: []api.Step{
		{Before: [][]byte{{1, 2}}, After: [][]byte{{3, 4}}},
		{Before: [][]byte{{5, 6}}, After: [][]byte{{7, 8}}},
	}}
	x := api.Tree{Kind: api.Small, Digest: 32, Fanout: 3, Depth: 255, Leaf: 4, Inner: 2}
	want8 := []byte{0x1d, 0, 0, 0, 0, 0, 0, 0, 4, 0, 0, 0, 0, 0, 0, 0, 1, 2, 3, 4, 5, 6, 7, 8}
	got, e := Pack(x, p)
	// Eight leaves under three nodes: the fifth has one on either side, and so has its parent.
	want(t, "Pack", got, e, want8)
	back, e := Unpack(x, want8)
	wantPath(t, "Unpack", back, e, p)

	far := api.Tree{Kind: api.Big, Digest: 1, Fanout: 2, Depth: 2, Leaf: 0xffffffff, Inner: 3}
	got, e = Pack(far, api.Path{Total: 0x01fffffffe, Leaf: 1, Steps: []api.Step{{Before: [][]byte{{9, 8, 7}}}}})
	want(t, "Pack of more bytes", got, e, []byte{0xfe, 0xff, 0xff, 0xff, 1, 0, 0, 0, 1, 0, 0, 0, 0, 0, 0, 0, 9, 8, 7})
}

func TestUnpackLengths(t *testing.T) { // PA3: ErrShort and ErrMore at every length
	for _, x := range append(formTrees(), bare(api.Big, 2, 255, 4), bare(api.Small, 3, 3, 4)) {
		for _, n := range []int{0, 4, 9, 30} {
			right := build(t, x, pattern(n))
			for leaf := range right.pieces {
				p := right.path(n, leaf)
				packed := append(head(uint64(n), uint64(leaf)), flat(p)...)
				long := append(bytes.Clone(packed), make([]byte, 3*x.Inner)...)
				for size := range len(long) + 1 {
					got, e := Unpack(x, long[:size])
					what := fmt.Sprintf("%v, %d bytes, leaf %d, %d of %d bytes", x, n, leaf, size, len(packed))
					switch {
					case size < len(packed):
						wantNoPath(t, what, got, e, api.ErrShort)
					case size > len(packed):
						wantNoPath(t, what, got, e, api.ErrMore)
					default:
						wantPath(t, what, got, e, p)
					}
				}
			}
		}
	}
}

func TestUnpackOfAnyBytes(t *testing.T) { // P1, PA3: heads that ask for far more digests than there are bytes
	for _, k := range kinds {
		for _, fanout := range []int{0, 2, 255} {
			for _, depth := range []int{2, 3, 4, 255} {
				for _, inner := range []int{1, 2, 3, 8, 31, 32} {
					x := grown(k, fanout, depth, 1<<16)
					x.Inner = inner
					for _, total := range []uint64{1 << 40, 1 << 60, 1 << 63, mostBytes - 1, mostBytes} {
						leaves := farLeaves(x, total)
						for _, leaf := range []uint64{0, leaves / 2, leaves - 1} {
							asked := uint64(0)
							for _, turn := range farTurns(x, total, leaf) {
								asked += turn.before + turn.after
							}
							if asked < 1000 {
								continue
							}
							for _, n := range []int{0, 1, inner, 1000} {
								p, e := Unpack(x, append(head(total, leaf), make([]byte, n)...))
								wantNoPath(t, fmt.Sprintf("%v, %d bytes, leaf %d", x, total, leaf), p, e, api.ErrShort)
							}
						}
					}
				}
			}
		}
	}
	// So many digests that their bytes, modulo 2^64, are none, or few.
	x := bare(api.Big, 0, 2, 1)
	for _, c := range []struct {
		inner int
		total uint64
	}{
		{64, 1<<58 + 1}, {64, 1<<58 + 2}, {32, 1<<59 + 1}, {2, 1<<63 + 1}, {64, 1<<62 + 1}, {3, 0x5555555555555556 + 1}, {1, mostBytes},
	} {
		x.Inner = c.inner
		for _, n := range []int{0, c.inner, 2 * c.inner} {
			p, e := Unpack(x, append(head(c.total, 0), make([]byte, n)...))
			wantNoPath(t, fmt.Sprint(c), p, e, api.ErrShort)
		}
	}
	for _, n := range []int{0, 1, 15} {
		for _, k := range kinds {
			p, e := Unpack(plan(k), bytes.Repeat([]byte{0xff}, n))
			wantNoPath(t, "Unpack of few bytes", p, e, api.ErrShort)
		}
	}
	p, e := Unpack(plan(api.Small), bytes.Repeat([]byte{0xff}, 16))
	wantNoPath(t, "Unpack of sixteen", p, e, api.ErrLong)
	p, e = Unpack(plan(api.Big), bytes.Repeat([]byte{0xff}, 16))
	wantNoPath(t, "Unpack of sixteen", p, e, api.ErrNone)
	p, e = Unpack(plan(api.Big), make([]byte, 16))
	wantPath(t, "Unpack of sixteen noughts", p, e, api.Path{Steps: []api.Step{{}}})
}

// memoryCases visits trees and leaves whose paths have digests on both sides, and one without any.
func memoryCases(t *testing.T, visit func(x api.Tree, right built, n, leaf int)) {
	for _, k := range kinds {
		for _, x := range []api.Tree{grown(k, 3, 255, 4), grown(k, 0, 2, 4), grown(k, 2, 3, 4)} {
			for _, n := range []int{0, 9, 61} {
				right := build(t, x, pattern(n))
				for _, leaf := range right.noted() {
					visit(x, right, n, leaf)
				}
			}
		}
	}
}

func TestNothingIsChanged(t *testing.T) { // P4: what is handed in stays as it was, the room behind its ends too
	memoryCases(t, func(x api.Tree, right built, n, leaf int) {
		laid, stillTree := roomyTree(x)
		data, stillData := roomy(pattern(n))
		piece, stillPiece := roomy(right.pieces[leaf])
		root, stillRoot := roomy(right.root())
		p, stillPath := roomyPath(right.path(n, leaf))
		packed, stillPacked := roomy(append(head(uint64(n), uint64(leaf)), flat(p)...))
		got, e := Prove(laid, data, uint64(leaf))
		wantPath(t, "Prove", got, e, right.path(n, leaf))
		b, e := Root(laid, p, piece)
		want(t, "Root", b, e, right.root())
		wantErrno(t, "Check", Check(laid, p, piece, root), api.OK)
		b, e = Pack(laid, p)
		want(t, "Pack", b, e, packed)
		got, e = Unpack(laid, packed)
		wantPath(t, "Unpack", got, e, right.path(n, leaf))
		_, e = Size(laid, uint64(n), uint64(leaf))
		wantOK(t, e)
		if !stillTree() || !stillData() || !stillPiece() || !stillRoot() || !stillPath() || !stillPacked() {
			t.Errorf("%v, %d bytes, leaf %d: what was handed in has changed", x, n, leaf)
		}
	})
}

func TestAnswersAreNew(t *testing.T) { // P4: answers that are overwritten, behind their ends too, leave all else as it was
	memoryCases(t, func(x api.Tree, right built, n, leaf int) {
		laid, stillTree := roomyTree(x)
		data, stillData := roomy(pattern(n))
		piece, stillPiece := roomy(right.pieces[leaf])
		p, stillPath := roomyPath(right.path(n, leaf))
		packed, stillPacked := roomy(append(head(uint64(n), uint64(leaf)), flat(p)...))
		for range 2 {
			proved, e := Prove(laid, data, uint64(leaf))
			wantPath(t, "Prove", proved, e, right.path(n, leaf))
			unpacked, e := Unpack(laid, packed)
			wantPath(t, "Unpack", unpacked, e, right.path(n, leaf))
			root, e := Root(laid, p, piece)
			want(t, "Root", root, e, right.root())
			bytes, e := Pack(laid, p)
			want(t, "Pack", bytes, e, packed)
			spoilPath(proved)
			wantPath(t, "Unpack behind a spoilt Prove", unpacked, api.OK, right.path(n, leaf))
			spoilPath(unpacked)
			want(t, "Root behind both", root, api.OK, right.root())
			spoil(root)
			spoil(bytes)
		}
		if !stillTree() || !stillData() || !stillPiece() || !stillPath() || !stillPacked() {
			t.Errorf("%v, %d bytes, leaf %d: an answer shares what was handed in", x, n, leaf)
		}
	})
}

func TestListsOfOneAnswerAreApart(t *testing.T) { // P4: no two lists of one path share memory, their rooms neither
	memoryCases(t, func(x api.Tree, right built, n, leaf int) {
		packed := append(head(uint64(n), uint64(leaf)), flat(right.path(n, leaf))...)
		tell := []func() (api.Path, api.Errno){
			func() (api.Path, api.Errno) { return Prove(x, pattern(n), uint64(leaf)) },
			func() (api.Path, api.Errno) { return Unpack(x, packed) },
		}
		for _, told := range tell {
			p, e := told()
			wantOK(t, e)
			wantApart(t, p)
		}
	})
}

// wantApart overwrites each digest and each list of a path by itself, and wants all others as they were.
func wantApart(t *testing.T, p api.Path) {
	t.Helper()
	before := clone(p)
	for i := range p.Steps {
		for side := range 2 {
			list, right := p.Steps[i].Before, before.Steps[i].Before
			if side == 1 {
				list, right = p.Steps[i].After, before.Steps[i].After
			}
			for j := range list {
				spoil(list[j])
				digest := right[j]
				right[j] = list[j][:len(digest)]
				if !samePath(p, before) {
					t.Errorf("step %d, side %d, digest %d: another one has changed", i, side, j)
				}
				spoil(list[j])
				right[j] = digest
			}
			own := slices.Clone(list)
			whole := list[:cap(list)]
			for j := range whole {
				whole[j] = []byte("spoilt")
			}
			if side == 0 && !sameLists(p.Steps[i].After, before.Steps[i].After) || side == 1 && !sameLists(p.Steps[i].Before, before.Steps[i].Before) {
				t.Errorf("step %d: both lists share memory", i)
			}
			for other := range p.Steps {
				if other != i && (!sameLists(p.Steps[other].Before, before.Steps[other].Before) || !sameLists(p.Steps[other].After, before.Steps[other].After)) {
					t.Errorf("steps %d and %d share memory", i, other)
				}
			}
			copy(list, own)
		}
	}
}

func TestNothingIsKept(t *testing.T) { // P4, P5: what is changed behind a call has no part in its answer, nor in later ones
	memoryCases(t, func(x api.Tree, right built, n, leaf int) {
		data := pattern(n)
		proved, e := Prove(x, data, uint64(leaf))
		wantOK(t, e)
		spoil(data)
		wantPath(t, "Prove", proved, e, right.path(n, leaf))
		packed, e := Pack(x, proved)
		wantOK(t, e)
		unpacked, e := Unpack(x, packed)
		wantOK(t, e)
		copied := bytes.Clone(packed)
		spoilPath(proved)
		want(t, "Pack", packed, e, copied)
		spoil(packed)
		wantPath(t, "Unpack", unpacked, e, right.path(n, leaf))
		piece := bytes.Clone(right.pieces[leaf])
		root, e := Root(x, unpacked, piece)
		wantOK(t, e)
		spoil(piece)
		spoilPath(unpacked)
		want(t, "Root", root, e, right.root())
	})
}

func TestNilAndEmpty(t *testing.T) { // P3
	for _, k := range kinds {
		x := bare(k, 2, 255, 4)
		empty := x
		empty.Key, empty.Salt, empty.Personal = []byte{}, []byte{}, []byte{}
		right := build(t, x, nil)
		for _, x := range []api.Tree{x, empty} {
			for _, none := range [][]byte{nil, {}} {
				p, e := Prove(x, none, 0)
				wantPath(t, "Prove", p, e, api.Path{Steps: []api.Step{{}}})
				wantErrno(t, "Check", Check(x, p, none, right.root()), api.OK)
				wantErrno(t, "Check of no root", Check(x, p, none, none), api.ErrProof)
				q, e := Unpack(x, none)
				wantNoPath(t, "Unpack", q, e, api.ErrShort)
			}
			for _, steps := range [][]api.Step{nil, {}} {
				wantRefused(t, "no steps", x, api.Path{Steps: steps}, nil, api.ErrForm)
			}
		}
		nine := build(t, x, pattern(9))
		p := nine.path(9, 2)
		p.Steps[0] = api.Step{Before: [][]byte{}, After: [][]byte{}}
		got, e := Root(x, p, nine.pieces[2])
		want(t, "Root", got, e, nine.root())
	}
}
