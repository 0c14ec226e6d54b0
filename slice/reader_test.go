package slice_test

import (
	"bytes"
	"encoding/binary"
	"fmt"
	"testing"

	"quern/api"
	"quern/slice"
)

// follower holds a reader against what the words say of all that came to it.
type follower struct {
	t      testing.TB
	what   string
	x      api.Tree
	digest []byte
	reader *slice.Reader
	came   []byte
	heard  heard
	given  int // bytes of the message that were taken out
}

func follow(t testing.TB, what string, x api.Tree, digest []byte) *follower {
	t.Helper()
	f := &follower{t: t, what: what, x: x, digest: digest, reader: readerOf(t, x, digest), heard: heard{why: api.ErrShort}}
	f.look()
	return f
}

// refused tells whether a Write was told an error.
func (f *follower) refused() bool {
	return f.heard.why != api.OK && f.heard.why != api.ErrShort
}

// write hands bytes in, and asks all that changes nothing.
func (f *follower) write(b []byte) {
	f.t.Helper()
	e := f.reader.Write(b)
	if !f.refused() && len(b) > 0 {
		f.came = append(f.came, b...)
		f.heard = listen(f.t, f.x, f.digest, f.came, 0, mostNumber)
	}
	right := f.heard.why
	if right == api.ErrShort {
		right = api.OK
	}
	if e != right {
		f.t.Errorf("%s: Write of %d bytes, %d in all: error %d, want %d", f.what, len(b), len(f.came), e, right)
	}
	f.look()
}

func (f *follower) look() {
	f.t.Helper()
	total, told := f.reader.Total()
	rightTotal, rightTold := uint64(0), false
	if f.heard.told {
		rightTotal, rightTold = f.heard.total, true
	}
	if total != rightTotal || told != rightTold {
		f.t.Errorf("%s, %d bytes came: Total %d %v, want %d %v", f.what, len(f.came), total, told, rightTotal, rightTold)
	}
	if got, right := f.reader.Done(), f.heard.why == api.OK; got != right {
		f.t.Errorf("%s, %d bytes came: Done %v", f.what, len(f.came), got)
	}
}

func (f *follower) take() {
	f.t.Helper()
	got, right := f.reader.Take(), f.heard.sound[f.given:]
	if !bytes.Equal(got, right) {
		f.t.Errorf("%s, %d bytes came: Take %x, want %x", f.what, len(f.came), got, right)
	}
	f.given = len(f.heard.sound)
	if got := f.reader.Take(); len(got) != 0 {
		f.t.Errorf("%s, %d bytes came: Take once more %x", f.what, len(f.came), got)
	}
	f.look()
}

// end hands in more of all kinds, and takes what is left.
func (f *follower) end() {
	f.t.Helper()
	f.write(nil)
	for _, b := range [][]byte{{0}, {}, f.came, pattern(9)} {
		f.write(b)
		f.write(b)
	}
	f.take()
	f.write(nil)
}

// inPieces hands a form in by pieces of so many bytes, and takes behind each one, or at the end alone.
func (f *follower) inPieces(form []byte, size int, taking bool) {
	f.t.Helper()
	for len(form) > 0 {
		n := min(size, len(form))
		f.write(form[:n])
		form = form[n:]
		if taking {
			f.take()
		}
	}
	if taking {
		f.take()
	}
}

func TestExampleReader(t *testing.T) { // the chapter's message
	x, digest, form := example(t)
	r := readerOf(t, x, digest)
	from := 0
	for _, s := range []struct {
		to   int // of the form: so much has come
		data string
		told bool
		done bool
	}{{0, "", false, false}, {7, "", false, false}, {8, "", true, false}, {41, "", true, false}, {42, "ab", true, false}, {44, "cd", true, false}, {52, "", true, false}, {53, "e", true, true}} {
		wantErrno(t, "Write", r.Write(form[from:s.to]), api.OK)
		from = s.to
		if got := r.Take(); string(got) != s.data {
			t.Errorf("%d bytes: Take %q, want %q", s.to, got, s.data)
		}
		n, told := r.Total()
		if told != s.told || told && n != 5 || !told && n != 0 || r.Done() != s.done {
			t.Errorf("%d bytes: Total %d %v, Done %v", s.to, n, told, r.Done())
		}
	}
}

func TestReaderByPieces(t *testing.T) { // P18.5: cut in every way: what is told hangs on what has come alone
	t.Parallel()
	forms(t, trees(3), func(what string, x api.Tree, data, form []byte, _ []piece, digest []byte) {
		for _, size := range []int{1, 7, len(form)} {
			for _, taking := range []bool{true, false} {
				if size == 1 && len(form) > 150 {
					continue
				}
				f := follow(t, fmt.Sprintf("%s, by %d", what, size), x, digest)
				f.inPieces(form, size, taking)
				if !f.reader.Done() {
					t.Errorf("%s: not done", what)
				}
				f.end()
			}
		}
	})
}

func TestReaderCutInTwo(t *testing.T) { // P18.5: at each place, with writes of nothing between
	t.Parallel()
	forms(t, fewTrees(), func(what string, x api.Tree, data, form []byte, _ []piece, digest []byte) {
		if len(form) > 120 {
			return
		}
		for n := range len(form) + 1 {
			f := follow(t, fmt.Sprintf("%s, cut at %d", what, n), x, digest)
			f.write(form[:n])
			f.write(nil)
			f.take()
			f.write([]byte{})
			f.write(form[n:])
			f.take()
			f.end()
		}
	})
}

func TestReaderTurned(t *testing.T) { // P18.5, P18.7: each single bit turned; what is given out is a beginning of the message
	for _, x := range fewTrees() {
		for _, n := range []int{0, 1, 5} {
			form, _, digest := laid(t, x, pattern(n))
			for i := range 8 * len(form) {
				turned := bytes.Clone(form)
				turned[i/8] ^= 1 << (i % 8)
				what := fmt.Sprintf("%s, %d bytes, bit %d turned", named(x), n, i)
				for _, size := range []int{11, len(form)} {
					f := follow(t, what, x, digest)
					f.inPieces(turned, size, i%2 == 0)
					f.end()
					if x.Inner > 4 && !bytes.HasPrefix(pattern(n), f.heard.sound) {
						t.Errorf("%s: %x was given out", what, f.heard.sound)
					}
				}
			}
		}
	}
}

func TestReaderTurnedByteByByte(t *testing.T) { // P18.5: a fault is told with the last byte of its piece, and not sooner
	for _, x := range fewTrees() {
		form, pieces, digest := laid(t, x, pattern(5))
		for _, p := range pieces {
			if len(p.data) == 0 {
				continue
			}
			turned := bytes.Clone(form)
			turned[p.start] ^= 0x80
			f := follow(t, fmt.Sprintf("%s, a piece at %d turned", named(x), p.start), x, digest)
			f.inPieces(turned, 1, true)
			f.end()
		}
	}
}

func TestReaderMore(t *testing.T) { // P18.5: bytes behind the end, with the last ones or behind them
	forms(t, fewTrees(), func(what string, x api.Tree, data, form []byte, _ []piece, digest []byte) {
		for _, more := range [][]byte{{0}, make([]byte, 8), form} {
			f := follow(t, what+", all at once", x, digest)
			f.write(append(bytes.Clone(form), more...))
			f.take()
			f.end()
			f = follow(t, what+", behind the end", x, digest)
			f.write(form)
			f.take()
			f.write(nil)
			f.write(more)
			f.end()
			f = follow(t, what+", taken behind the fault", x, digest)
			f.write(form)
			f.write(more)
			f.end()
		}
	})
}

func TestReaderTotals(t *testing.T) { // P18.5, Limits: a length is known with the eighth byte, if it is no more than MaxTotal
	for _, x := range fewTrees() {
		for _, total := range []uint64{0, 1, 1<<40 - 1, 1 << 40, 1<<40 + 1, 1 << 48, 1<<48 + 1, 1 << 63, mostNumber} {
			head := binary.LittleEndian.AppendUint64(nil, total)
			for _, size := range []int{1, 3, 8} {
				f := follow(t, fmt.Sprintf("%s, a total of %d", named(x), total), x, pattern(x.Digest))
				f.inPieces(head, size, true)
				if got, is := f.reader.Total(); is != (total <= 1<<40) || is && got != total {
					t.Errorf("Total %d %v of %d", got, is, total)
				}
				f.write(pattern(3))
				f.end()
			}
			f := follow(t, fmt.Sprintf("%s, a total of %d and more", named(x), total), x, pattern(x.Digest))
			f.write(append(head, pattern(500)...))
			f.end()
		}
	}
}

func TestReaderOfAnEmptyLeaf(t *testing.T) { // P18.5: a piece without a byte is looked at as soon as it is its turn
	for _, k := range kinds {
		for _, x := range []api.Tree{bare(k, 2, 255, 2), grown(k, 0, 2, 3)} {
			form, _, digest := laid(t, x, nil)
			r := readerOf(t, x, digest)
			wantErrno(t, "all but a byte", r.Write(form[:len(form)-1]), api.OK)
			if r.Done() {
				t.Errorf("done ahead of the end")
			}
			wantErrno(t, "the last byte", r.Write(form[len(form)-1:]), api.OK)
			if !r.Done() || len(r.Take()) != 0 {
				t.Errorf("not done")
			}
			wrong := bytes.Clone(form)
			wrong[8] ^= 1
			root := output(t, lieOf(x, 0).call(1, 0, wrong[8:]))
			r = readerOf(t, x, root)
			wantErrno(t, "all but a byte, wrong", r.Write(wrong[:len(form)-1]), api.OK)
			wantErrno(t, "the last byte, wrong", r.Write(wrong[len(form)-1:]), api.ErrFalse)
			f := follow(t, "wrong", x, root)
			f.inPieces(wrong, 1, true)
			f.end()
		}
	}
}

func TestNew(t *testing.T) { // P18.5: ErrArg, if the digest has not Digest bytes
	for _, x := range append(trees(3), edgeTrees()...) {
		for _, n := range []int{0, 1, x.Digest - 1, x.Digest, x.Digest + 1, 32, 64, 65, 1000} {
			r, e := slice.New(x, pattern(n))
			if n == x.Digest {
				if r == nil || e != api.OK {
					t.Errorf("New, %s: error %d", named(x), e)
				}
				continue
			}
			if r != nil || e != api.ErrArg {
				t.Errorf("New, %s, a digest of %d bytes: %v, error %d", named(x), n, r, e)
			}
		}
		if r, e := slice.New(x, nil); r != nil || e != api.ErrArg {
			t.Errorf("New, %s, no digest: %v, error %d", named(x), r, e)
		}
	}
}

func TestReadersThatNoCallMade(t *testing.T) { // P1, P18.5
	for what, r := range map[string]*slice.Reader{"nil": nil, "zero": {}, "new": new(slice.Reader)} {
		for range 2 {
			for _, b := range [][]byte{nil, {}, {0}, pattern(100)} {
				wantErrno(t, what+": Write", r.Write(b), api.ErrZero)
			}
			if got := r.Take(); len(got) != 0 {
				t.Errorf("%s: Take %x", what, got)
			}
			if n, is := r.Total(); n != 0 || is {
				t.Errorf("%s: Total %d %v", what, n, is)
			}
			if r.Done() {
				t.Errorf("%s: Done", what)
			}
		}
	}
}

// errorForms are forms that end in each of the errors, and a sound one, all of one tree and under one digest.
func errorForms(t testing.TB, x api.Tree, n int) (digest []byte, list map[string][]byte) {
	t.Helper()
	form, pieces, digest := laid(t, x, pattern(n))
	list = map[string][]byte{"sound": form, "more": append(bytes.Clone(form), 1, 2, 3)}
	list["total"] = append(binary.LittleEndian.AppendUint64(nil, 1<<40+1), form[8:]...)
	for i, p := range pieces {
		if len(p.data) > 0 {
			wrong := bytes.Clone(form)
			wrong[p.start+len(p.data)-1] ^= 0xff
			list[fmt.Sprint("piece ", i)] = wrong
		}
	}
	return digest, list
}

func TestReaderScripts(t *testing.T) { // G3: all rows of five calls
	t.Parallel()
	x := weak(api.Small, 2, 255, 1)
	digest, list := errorForms(t, x, 3)
	for what, form := range list {
		for script := range 6 * 6 * 6 * 6 * 6 {
			f := follow(t, fmt.Sprintf("%s, script %d", what, script), x, digest)
			rest := form
			hand := func(n int) {
				n = min(n, len(rest))
				f.write(rest[:n])
				rest = rest[n:]
			}
			for i := script; i > 0; i /= 6 {
				switch i % 6 {
				case 0:
					f.write(nil)
				case 1:
					hand(1)
				case 2:
					hand(8)
				case 3:
					hand(len(rest))
				case 4:
					f.write([]byte{0xee})
				case 5:
					f.take()
				}
			}
		}
	}
}

func TestReaderByChance(t *testing.T) { // G3: calls by chance
	t.Parallel()
	c := chance(3)
	list := trees(1, 2, 5)
	for range 3000 {
		x := list[c.below(len(list))]
		digest, wrong := errorForms(t, x, c.below(20))
		names := []string{"sound", "more", "total", "piece 0", "piece 1", "piece 2", "piece 5"}
		form := wrong[names[c.below(len(names))]]
		f := follow(t, named(x), x, digest)
		for len(form) > 0 {
			n := min(1+c.below(1+c.below(40)), len(form))
			f.write(form[:n])
			form = form[n:]
			if c.below(3) == 0 {
				f.take()
			}
		}
		f.end()
	}
}

func TestReaderOfALongForm(t *testing.T) { // P18.5: many rows and pieces, handed in at once and by small pieces
	for _, k := range kinds {
		for _, x := range []api.Tree{grown(k, 2, 255, 3), bare(k, 0, 2, 3), grown(k, 255, 255, 1)} {
			form, _, digest := laid(t, x, pattern(1500))
			for _, size := range []int{1, 5, 64, 1000, len(form)} {
				r := readerOf(t, x, digest)
				var got []byte
				for from := 0; from < len(form); from += size {
					wantErrno(t, "Write", r.Write(form[from:min(from+size, len(form))]), api.OK)
					got = append(got, r.Take()...)
				}
				if !bytes.Equal(got, pattern(1500)) || !r.Done() {
					t.Errorf("%s, by %d: %d bytes, done %v", named(x), size, len(got), r.Done())
				}
			}
		}
	}
}
