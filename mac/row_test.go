package mac

import (
	"bytes"
	"encoding/binary"
	"encoding/hex"
	"math"
	"math/rand"
	"testing"

	"quern/api"
)

// number tells eight bytes, the lowest first.
func number(n uint64) []byte { return binary.LittleEndian.AppendUint64(nil, n) }

// byHand tells the row as the chapter's words have it.
func byHand(parts [][]byte) []byte {
	var b []byte
	for _, p := range parts {
		b = append(append(b, number(uint64(len(p)))...), p...)
	}
	return b
}

func sameParts(a, b [][]byte) bool {
	if len(a) != len(b) {
		return false
	}
	for i := range a {
		if !bytes.Equal(a[i], b[i]) {
			return false
		}
	}
	return true
}

func TestExampleRows(t *testing.T) { // P6.2: the chapter's second example
	b, e := Row([]byte("a"), nil)
	want(t, "Row", b, e, []byte("\x01\x00\x00\x00\x00\x00\x00\x00a\x00\x00\x00\x00\x00\x00\x00\x00"))
	wantNoRow(t, []byte("\x02\x00\x00\x00\x00\x00\x00\x00a"), 8, api.ErrForm)
	wantNoRow(t, []byte{1, 0, 0}, 0, api.ErrForm)
}

func wantNoRow(t *testing.T, b []byte, place int, right api.Errno) {
	t.Helper()
	if parts, at, e := Unrow(b); len(parts) != 0 || at != place || e != right {
		t.Errorf("Unrow of %d bytes: %d parts, at %d, %d; want %d at %d", len(b), len(parts), at, e, right, place)
	}
}

func wantRow(t *testing.T, b []byte, right [][]byte) {
	t.Helper()
	if parts, at, e := Unrow(b); !sameParts(parts, right) || at != 0 || e != api.OK {
		t.Errorf("Unrow of %d bytes: %d parts, at %d, %d; want %d parts", len(b), len(parts), at, e, len(right))
	}
}

// someRows are rows of parts: none, empty ones, the same bytes cut otherwise, and some by chance.
func someRows() [][][]byte {
	rows := [][][]byte{
		nil, {}, {nil}, {{}}, {nil, nil}, {nil, {}, nil},
		lists("abc"), lists("a", "bc"), lists("ab", "c"), lists("", "abc"), lists("abc", ""), lists("a", "b", "c"), lists("a", "", "bc"),
		{make([]byte, 8)}, {nil, nil, make([]byte, 8)}, {number(8), make([]byte, 8)}, {rising(255), rising(256), rising(257)}, {pattern(1 << 16)},
	}
	r := rand.New(rand.NewSource(6))
	for range 100 {
		parts := make([][]byte, r.Intn(7))
		for i := range parts {
			parts[i] = make([]byte, r.Intn(1+r.Intn(300)))
			r.Read(parts[i])
		}
		rows = append(rows, parts)
	}
	return rows
}

func TestRowThereAndBack(t *testing.T) { // P6.2, P6.5, P3
	for _, parts := range someRows() {
		b, e := Row(parts...)
		want(t, "Row", b, e, byHand(parts))
		wantRow(t, b, parts)
	}
	wantRow(t, nil, nil)
	wantRow(t, []byte{}, nil)
}

// TestUnlikeRows: rows of parts that differ have bytes that differ, and so have their tuples.
func TestUnlikeRows(t *testing.T) { // P6.2
	rows := someRows()
	for i, a := range rows {
		for _, b := range rows[:i] {
			x, _ := Row(a...)
			y, _ := Row(b...)
			if bytes.Equal(x, y) != sameParts(a, b) {
				t.Errorf("%q and %q: %x, %x", a, b, x, y)
			}
		}
	}
	ab, _ := Tuple(api.Small, 32, nil, lists("ab", "c")...)
	bc, _ := Tuple(api.Small, 32, nil, lists("a", "bc")...)
	if len(ab) != 32 || bytes.Equal(ab, bc) {
		t.Errorf("tuples of ab, c and of a, bc: %x, %x", ab, bc)
	}
}

// placeOfCut tells where the first piece begins that is not whole in the first n bytes of a row.
func placeOfCut(parts [][]byte, n int) int {
	at := 0
	for _, p := range parts {
		for _, piece := range []int{8, len(p)} {
			if at+piece > n {
				return at
			}
			at += piece
		}
	}
	return at
}

func TestUnrowCutShort(t *testing.T) { // P6.2: at every place
	for _, parts := range [][][]byte{lists("a"), lists("ab", "", "cde"), lists("", ""), lists("0123456789", "x", "", "yz")} {
		b, e := Row(parts...)
		wantOK(t, e)
		whole := map[int]int{0: 0} // ends of whole parts, and how many there are
		end := 0
		for i, p := range parts {
			end += 8 + len(p)
			whole[end] = i + 1
		}
		for n := range len(b) {
			if count, ok := whole[n]; ok {
				wantRow(t, b[:n], parts[:count])
				continue
			}
			wantNoRow(t, b[:n], placeOfCut(parts, n), api.ErrForm)
		}
		for more := 1; more < 8; more++ {
			wantNoRow(t, append(bytes.Clone(b), make([]byte, more)...), len(b), api.ErrForm)
		}
	}
}

func TestUnrowOfCutsByNumbers(t *testing.T) { // P6.2: the places, told by hand
	b, e := Row(lists("ab", "", "cde")...) // numbers at 0, 10, 18; bytes at 8, (18,) 26
	wantOK(t, e)
	for n, place := range map[int]int{1: 0, 7: 0, 8: 8, 9: 8, 11: 10, 17: 10, 19: 18, 25: 18, 26: 26, 28: 26} {
		wantNoRow(t, b[:n], place, api.ErrForm)
	}
	wantRow(t, b[:10], lists("ab"))
	wantRow(t, b[:18], lists("ab", ""))
}

func TestUnrowOfGreatNumbers(t *testing.T) { // P6.2, P6: past the end, past every int
	for _, n := range []uint64{1, 2, 255, 1 << 24, 1<<24 + 1, math.MaxInt32, math.MaxUint32, 1 << 32, math.MaxInt64 - 8, math.MaxInt64, 1 << 63, math.MaxUint64 - 8, math.MaxUint64 - 7, math.MaxUint64} {
		wantNoRow(t, number(n), 8, api.ErrForm)
		behind := append(byHand(lists("abc")), number(n)...)
		wantNoRow(t, behind, 19, api.ErrForm)
		if n > 20 {
			wantNoRow(t, append(behind, pattern(20)...), 19, api.ErrForm)
		}
	}
	// Each of the eight bytes of a number counts.
	for i := range 8 {
		b := make([]byte, 8+1)
		b[i] = 2
		wantNoRow(t, b, 8, api.ErrForm)
	}
}

// TestUnrowOfAnyBytes: what Unrow takes is the row of what it tells; what it refuses is whole up to its place.
func TestUnrowOfAnyBytes(t *testing.T) { // P6.2, P6.5, P1
	r := rand.New(rand.NewSource(7))
	for range 20000 {
		b := make([]byte, r.Intn(40))
		for i := range b {
			if r.Intn(6) == 0 {
				b[i] = byte(r.Intn(10))
			}
		}
		parts, at, e := Unrow(b)
		if e == api.OK {
			back, e := Row(parts...)
			want(t, "Row of Unrow", back, e, b)
			continue
		}
		if e != api.ErrForm || len(parts) != 0 || !(brokenNumber(b, at) || brokenPart(b, at)) {
			t.Fatalf("Unrow(%x): %x %d %d", b, parts, at, e)
		}
	}
}

// brokenNumber tells whether b is a row up to a place, and less than a number from there on.
func brokenNumber(b []byte, at int) bool {
	_, _, e := Unrow(b[:at])
	return e == api.OK && at < len(b) && len(b)-at < 8
}

// brokenPart tells whether b is a row up to the number that ends at a place, and less than that many bytes from there on.
func brokenPart(b []byte, at int) bool {
	if at < 8 {
		return false
	}
	_, _, e := Unrow(b[:at-8])
	return e == api.OK && binary.LittleEndian.Uint64(b[at-8:]) > uint64(len(b)-at)
}

func TestRowAtItsMost(t *testing.T) { // P6.2, Limits: MaxRow and one more
	for _, parts := range [][][]byte{
		{make([]byte, api.MaxRow-8)},
		{pattern(1000), make([]byte, api.MaxRow-1000-16)},
		{make([]byte, api.MaxRow-24), nil, nil},
		make([][]byte, api.MaxRow/8),
	} {
		b, e := Row(parts...)
		if e != api.OK || len(b) != api.MaxRow {
			t.Fatalf("%d parts: %d bytes, %d", len(parts), len(b), e)
		}
		wantRow(t, b, parts)
		last := len(parts) - 1
		for _, more := range [][][]byte{
			append(append([][]byte{}, parts[:last]...), append(bytes.Clone(parts[last]), 0)),
			append(append([][]byte{}, parts...), nil),
			append([][]byte{{}}, parts...),
		} {
			got, e := Row(more...)
			wantNo(t, "Row of one more", got, e, api.ErrLong)
		}
		wantNoRow(t, append(b, 0), 0, api.ErrLong)
		wantNoRow(t, append(b, number(0)...), 0, api.ErrLong)
	}
	// One list many times over is more than any memory holds.
	got, e := Row(bytesOften(make([]byte, 1<<24), 1<<16)...)
	wantNo(t, "Row of one list often", got, e, api.ErrLong)
	wantNoRow(t, bytes.Repeat([]byte{0xff}, api.MaxRow), 8, api.ErrForm)
	wantNoRow(t, bytes.Repeat([]byte{0xff}, api.MaxRow+1), 0, api.ErrLong)
}

func bytesOften(b []byte, times int) [][]byte {
	list := make([][]byte, times)
	for i := range list {
		list[i] = b
	}
	return list
}

func TestParts(t *testing.T) { // P6.2: one behind the other, however they are cut
	for _, k := range kinds {
		for _, key := range [][]byte{nil, {}, rising(1), rising(mostOf(k))} {
			for _, parts := range someRows() {
				n := 1 + len(parts)%mostOf(k)
				b, e := Parts(k, n, key, parts...)
				want(t, "Parts", b, e, byChapter(t, k, n, key, nil, nil, bytes.Join(parts, nil)))
			}
			right := byChapter(t, k, 32, key, nil, nil, []byte("abc"))
			for _, parts := range [][][]byte{lists("abc"), lists("a", "bc"), lists("ab", "c"), lists("", "a", "", "b", "c", "")} {
				b, e := Parts(k, 32, key, parts...)
				want(t, "Parts of abc", b, e, right)
			}
			nothing := byChapter(t, k, 32, key, nil, nil, nil)
			for _, parts := range [][][]byte{nil, {}, {nil}, {{}, nil, {}}} {
				b, e := Parts(k, 32, key, parts...)
				want(t, "Parts of nothing", b, e, nothing)
			}
		}
	}
	// No row is laid down, so more than MaxRow bytes are taken.
	b, e := Parts(api.Big, 16, nil, make([]byte, api.MaxRow), []byte("x"))
	want(t, "Parts of much", b, e, byChapter(t, api.Big, 16, nil, nil, nil, append(make([]byte, api.MaxRow), 'x')))
}

func TestTuple(t *testing.T) { // P6.2
	for _, c := range toldTuples {
		right, _ := hex.DecodeString(c.want)
		b, e := Tuple(c.kind, c.n, rising(c.key), lists(c.parts...)...)
		want(t, "Tuple", b, e, right)
	}
	for _, k := range kinds {
		for _, parts := range someRows() {
			n := 1 + len(parts)%mostOf(k)
			b, e := Tuple(k, n, rising(n), parts...)
			want(t, "Tuple", b, e, byChapter(t, k, n, rising(n), nil, nil, byHand(parts)))
		}
	}
}

func TestTupleRefuses(t *testing.T) { // P6.2, P2: Make's error ahead of Row's
	long := make([]byte, api.MaxRow-7)
	for _, k := range noKinds {
		b, e := Tuple(k, 0, rising(65), long)
		wantNo(t, "kind and all", b, e, api.ErrArg)
	}
	for _, k := range kinds {
		for _, n := range badLengths(k) {
			b, e := Tuple(k, n, rising(65), long)
			wantNo(t, "digest and all", b, e, api.ErrDigest)
		}
		b, e := Tuple(k, 1, rising(mostOf(k)+1), long)
		wantNo(t, "key and row", b, e, api.ErrKey)
		b, e = Tuple(k, 1, rising(mostOf(k)), long)
		wantNo(t, "row", b, e, api.ErrLong)
		b, e = Tuple(k, 1, nil, make([][]byte, api.MaxRow/8+1)...)
		wantNo(t, "many parts", b, e, api.ErrLong)
	}
	b, e := Tuple(api.Big, 32, nil, long[1:])
	want(t, "the most", b, e, byChapter(t, api.Big, 32, nil, nil, nil, byHand([][]byte{long[1:]})))
}

func TestRowsAreTheirOwn(t *testing.T) { // P4
	wantOwn(t, "Row", func(a [][]byte) []byte {
		b, _ := Row(a...)
		return b
	}, rising(3), nil, pattern(100))
	for _, k := range kinds {
		wantOwn(t, "Parts", func(a [][]byte) []byte {
			b, _ := Parts(k, 9, a[0], a[1:]...)
			return b
		}, rising(3), nil, pattern(100), pattern(9))
		wantOwn(t, "Tuple", func(a [][]byte) []byte {
			b, _ := Tuple(k, 9, a[0], a[1:]...)
			return b
		}, rising(3), nil, pattern(100), pattern(9))
	}
}

// TestUnrowIsItsOwn: no part shares memory with the row, with another part, or with one of another answer.
func TestUnrowIsItsOwn(t *testing.T) { // P4
	right := [][]byte{rising(3), nil, pattern(100), rising(1), nil, rising(40)}
	b, still := roomy(byHand(right))
	parts, _, e := Unrow(b)
	wantOK(t, e)
	again, _, _ := Unrow(b)
	for i := range parts {
		spoil(parts[i])
		parts[i] = append(parts[i], 0x77)
		for j := i + 1; j < len(parts); j++ {
			if !bytes.Equal(parts[j], right[j]) {
				t.Errorf("part %d: %x, behind a change of part %d", j, parts[j], i)
			}
		}
	}
	if !still() {
		t.Errorf("the row has changed")
	}
	spoil(b)
	if !sameParts(again, right) {
		t.Errorf("another answer: %x", again)
	}
}

// TestListOfPartsStays: the list of lists itself is not changed, nor what lies behind its end.
func TestListOfPartsStays(t *testing.T) { // P4
	mark := []byte("mark")
	list := append(lists("a", "", "bc"), mark, mark)
	parts := list[:3]
	Row(parts...)
	Parts(api.Big, 8, nil, parts...)
	Tuple(api.Small, 8, rising(2), parts...)
	if !sameParts(list, lists("a", "", "bc", "mark", "mark")) {
		t.Errorf("the list: %q", list)
	}
}
