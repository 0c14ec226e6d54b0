package param

import (
	"bytes"
	"math"
	"math/rand"
	"strconv"
	"strings"
	"testing"

	"quern/api"
)

func mustShow(t *testing.T, k api.Kind, p api.Params, want string) {
	t.Helper()
	if s, e := Show(k, p); s != want || e != api.OK {
		t.Errorf("Show(%d, %v) = %q, %d", k, p, s, e)
	}
}

func mustRead(t *testing.T, text string, k api.Kind, want api.Params) {
	t.Helper()
	if kind, p, at, e := Read(text); kind != k || !same(p, want) || at != 0 || e != api.OK {
		t.Errorf("Read(%q) = %d, %v, %d, %d", text, kind, p, at, e)
	}
}

func mustRefuseLine(t *testing.T, text string, at int, want api.Errno) {
	t.Helper()
	k, p, place, e := Read(text)
	if e != want || place != at {
		t.Errorf("Read(%q): place %d, %d; not place %d, %d", text, place, e, at, want)
	}
	if k != 0 || !isZero(p) {
		t.Errorf("Read(%q): %d, %v beside the error", text, k, p)
	}
}

func usual(k api.Kind) api.Params {
	return api.Params{Digest: mostOf(k), Fanout: 1, Depth: 1}
}

func TestShow(t *testing.T) { // P2.8
	mustShow(t, api.Big, usual(api.Big), "2b")
	mustShow(t, api.Small, usual(api.Small), "2s")
	mustShow(t, api.Small, api.Params{Digest: 16, Key: 4, Fanout: 1, Depth: 1}, "2s digest=16 key=4")
	mustShow(t, api.Big, api.Params{Digest: 32, Fanout: 1, Depth: 1}, "2b digest=32")
	mustShow(t, api.Big, api.Params{Digest: 64, Fanout: 0, Depth: 0, Xof: 1}, "2b fanout=0 depth=0 xof=1")
	mustShow(t, api.Big, api.Params{Digest: 1, Key: 2, Fanout: 3, Depth: 4, Leaf: 5, Offset: 6, Xof: 7, NodeDepth: 8, Inner: 9, Salt: []byte{0, 10}, Personal: []byte{0xab, 0, 0xcd}},
		"2b digest=1 key=2 fanout=3 depth=4 leaf=5 offset=6 xof=7 node=8 inner=9 salt=000a personal=ab00cd")
	mustShow(t, api.Big, api.Params{Digest: 64, Fanout: 1, Depth: 1, Leaf: math.MaxUint32, Offset: math.MaxUint64}, "2b leaf=4294967295 offset=18446744073709551615")
	mustShow(t, api.Small, api.Params{Digest: 32, Fanout: 255, Depth: 255, NodeDepth: 255, Inner: 32, Xof: 65535}, "2s fanout=255 depth=255 xof=65535 node=255 inner=32")
}

func TestShowOneField(t *testing.T) { // P2.8
	for _, k := range bothKinds {
		name := map[api.Kind]string{api.Big: "2b", api.Small: "2s"}[k]
		for _, c := range []struct {
			set  func(*api.Params)
			want string
		}{
			{func(p *api.Params) { p.Digest = 7 }, " digest=7"},
			{func(p *api.Params) { p.Key = 7 }, " key=7"},
			{func(p *api.Params) { p.Fanout = 0 }, " fanout=0"},
			{func(p *api.Params) { p.Depth = 2 }, " depth=2"},
			{func(p *api.Params) { p.Leaf = 7 }, " leaf=7"},
			{func(p *api.Params) { p.Offset = 7 }, " offset=7"},
			{func(p *api.Params) { p.Xof = 7 }, " xof=7"},
			{func(p *api.Params) { p.NodeDepth = 7 }, " node=7"},
			{func(p *api.Params) { p.Inner = 7 }, " inner=7"},
			{func(p *api.Params) { p.Salt = []byte{7} }, " salt=07"},
			{func(p *api.Params) { p.Salt = []byte{0, 7, 0, 0} }, " salt=0007"},
			{func(p *api.Params) { p.Personal = []byte{0xff, 0} }, " personal=ff"},
			{func(p *api.Params) { p.Salt, p.Personal = []byte{}, noughts(saltOf(k)) }, ""},
			{func(p *api.Params) { p.Salt = ones(saltOf(k)) }, " salt=" + strings.Repeat("01", saltOf(k))},
		} {
			p := usual(k)
			c.set(&p)
			mustShow(t, k, p, name+c.want)
			mustRead(t, name+c.want, k, normalOf(p))
		}
	}
}

func TestRead(t *testing.T) { // P2.9
	mustRead(t, "2b", api.Big, usual(api.Big))
	mustRead(t, "2s", api.Small, usual(api.Small))
	mustRead(t, "2s salt=0100", api.Small, api.Params{Digest: 32, Fanout: 1, Depth: 1, Salt: []byte{1}})
	mustRead(t, "2b digest=1 key=2 fanout=3 depth=4 leaf=5 offset=6 xof=7 node=8 inner=9 salt=000a personal=ab00cd00", api.Big,
		api.Params{Digest: 1, Key: 2, Fanout: 3, Depth: 4, Leaf: 5, Offset: 6, Xof: 7, NodeDepth: 8, Inner: 9, Salt: []byte{0, 10}, Personal: []byte{0xab, 0, 0xcd}})
	// What Show leaves out may be said, none of a salt's bytes too.
	mustRead(t, "2b digest=64 key=0 fanout=1 depth=1 leaf=0 offset=0 xof=0 node=0 inner=0 salt= personal=", api.Big, usual(api.Big))
	mustRead(t, "2s salt=0000000000000000 personal=00", api.Small, usual(api.Small))
	mustRead(t, "2b salt=00112233445566778899aabbccddeeff", api.Big, api.Params{Digest: 64, Fanout: 1, Depth: 1, Salt: []byte{0, 0x11, 0x22, 0x33, 0x44, 0x55, 0x66, 0x77, 0x88, 0x99, 0xaa, 0xbb, 0xcc, 0xdd, 0xee, 0xff}})
	mustRead(t, "2b leaf=4294967295 offset=18446744073709551615", api.Big, api.Params{Digest: 64, Fanout: 1, Depth: 1, Leaf: math.MaxUint32, Offset: math.MaxUint64})
	mustRead(t, "2b offset=4294967295 xof=4294967295", api.Big, api.Params{Digest: 64, Fanout: 1, Depth: 1, Offset: math.MaxUint32, Xof: math.MaxUint32})
	mustRead(t, "2s offset=281474976710655", api.Small, api.Params{Digest: 32, Fanout: 1, Depth: 1, Offset: 1<<48 - 1})
	mustRead(t, "2s depth=0 xof=65535", api.Small, api.Params{Digest: 32, Fanout: 1, Xof: 65535})
}

func TestReadLong(t *testing.T) { // P2.9
	for _, n := range []int{513, 514, 1000, 1 << 20} {
		mustRefuseLine(t, strings.Repeat("x", n), 0, api.ErrLong)
		mustRefuseLine(t, "2b digest=65 salt="+strings.Repeat("0", n-18), 0, api.ErrLong)
	}
	// At the limit all is as below it.
	mustRefuseLine(t, "2b personal="+strings.Repeat("0", 500), 3, api.ErrPersonal)
	mustRefuseLine(t, "2b personal="+strings.Repeat("0", 499), 3, api.ErrForm)
	mustRefuseLine(t, "2b key=1 salt="+strings.Repeat("0", 498), 9, api.ErrSalt)
	mustRefuseLine(t, strings.Repeat("x", 512), 0, api.ErrForm)
	mustRefuseLine(t, strings.Repeat(" ", 512), 0, api.ErrForm)
	mustRefuseLine(t, "2b "+strings.Repeat(" ", 509), 3, api.ErrForm)
}

func TestReadForm(t *testing.T) { // P2.9
	for _, c := range []struct {
		text string
		at   int
	}{
		{"", 0}, {" ", 0}, {" 2b", 0}, {"2", 0}, {"b", 0}, {"2B", 0}, {"2S", 0}, {"2bb", 0}, {"2c", 0}, {"2b\n", 0}, {"2b\tkey=1", 0}, {"key=1", 0}, {"\x00", 0}, {"2b=", 0}, {"é", 0},
		{"2b ", 3}, {"2s ", 3}, {"2b  ", 3}, {"2b  key=1", 3}, {"2b key=1 ", 9}, {"2b key=1  ", 9}, {"2b key=1  leaf=1", 9}, {"2b key=1 leaf=1 ", 16},
		{"2b 2b", 3}, {"2b 2s key=1", 3}, {"2b keys=1", 3}, {"2b ke=1", 3}, {"2b Key=1", 3}, {"2b =1", 3}, {"2b key", 3}, {"2b salt", 3}, {"2b personal", 3}, {"2b =", 3}, {"2b key =1", 3}, {"2b key= 1", 3}, {"2b x=1", 3}, {"2b Digest=1", 3}, {"2b key==1", 3}, {"2b salt==", 3},
		{"2b key=1 key=1", 9}, {"2b key=1 key=2", 9}, {"2b salt=01 salt=01", 11}, {"2b salt= salt=", 9}, {"2b personal=01 personal=01", 15},
		{"2b key=1 digest=1", 9}, {"2b personal=01 salt=01", 15}, {"2b salt=01 inner=1", 11}, {"2b inner=1 node=1", 11}, {"2b node=1 xof=1", 10}, {"2b xof=1 offset=1", 9}, {"2b offset=1 leaf=1", 12}, {"2b leaf=1 depth=1", 10}, {"2b depth=1 fanout=1", 11}, {"2b fanout=1 key=1", 12},
		{"2b key=", 3}, {"2b key=01", 3}, {"2b key=00", 3}, {"2b key=-1", 3}, {"2b key=-0", 3}, {"2b key=+1", 3}, {"2b key=1.", 3}, {"2b key=1_0", 3}, {"2b key=0x1", 3}, {"2b key=1a", 3}, {"2b key=a", 3}, {"2b key=1\n", 3}, {"2b key=\x001", 3}, {"2b key=１", 3}, {"2b key=1e1", 3},
		{"2b salt=0", 3}, {"2b salt=000", 3}, {"2b salt=0A", 3}, {"2b salt=aB", 3}, {"2b salt=A0", 3}, {"2b salt=0g", 3}, {"2b salt=g0", 3}, {"2b salt=0x", 3}, {"2b salt=0:", 3}, {"2b salt=0/", 3}, {"2b salt=0`", 3},
		{"2b personal=0", 3}, {"2b personal=FF", 3}, {"2b personal=0\x00", 3}, {"2b personal=é", 3},
		{"2b digest=18446744073709551616", 3}, {"2b offset=18446744073709551616", 3}, {"2b leaf=18446744073709551616", 3}, {"2b xof=99999999999999999999", 3}, {"2b key=1 offset=100000000000000000000000000000000", 9},
	} {
		mustRefuseLine(t, c.text, c.at, api.ErrForm)
	}
}

// TestFormComesFirst: a word that can't stand there comes ahead of all other faults, wherever it stands.
func TestFormComesFirst(t *testing.T) { // P2.9, P2
	for _, c := range []struct {
		text string
		at   int
		e    api.Errno
	}{
		{"2b digest=65 ", 13, api.ErrForm},
		{"2b digest=65 key=01", 13, api.ErrForm},
		{"2b leaf=4294967296 x", 19, api.ErrForm},
		{"2b xof=4294967296 salt=0", 18, api.ErrForm},
		{"2b key=01 key=", 3, api.ErrForm},
		// Then those that four bytes do not hold, and then Check's, in Check's order.
		{"2b digest=65 leaf=4294967296", 13, api.ErrArg},
		{"2b digest=65 xof=4294967296", 13, api.ErrXof},
		{"2b digest=65 leaf=4294967296 xof=4294967296", 13, api.ErrArg},
		{"2b leaf=4294967296 xof=4294967296 inner=65", 3, api.ErrArg},
		{"2b depth=0 xof=4294967296", 11, api.ErrXof},
		{"2b digest=65 key=65", 3, api.ErrDigest},
		{"2b key=65 fanout=256", 3, api.ErrKey},
		{"2b key=64 fanout=256 depth=256", 10, api.ErrFanout},
		{"2b depth=256 offset=4294967296 xof=1", 3, api.ErrDepth},
		{"2s offset=281474976710656 node=256 inner=33 salt=010203040506070809", 3, api.ErrOffset},
		{"2s offset=4294967296 xof=65536", 3, api.ErrOffset},
		{"2s xof=65536 node=256", 3, api.ErrXof},
		{"2s node=256 inner=33", 3, api.ErrRow},
		{"2s node=255 inner=33 salt=010203040506070809", 12, api.ErrInner},
		{"2s salt=010203040506070809 personal=010203040506070809", 3, api.ErrSalt},
		{"2s salt=0102030405060708 personal=010203040506070809", 25, api.ErrPersonal},
		{"2s salt= personal=000000000000000000", 9, api.ErrPersonal},
	} {
		mustRefuseLine(t, c.text, c.at, c.e)
	}
}

func TestReadTellsCheck(t *testing.T) { // P2.9
	for _, k := range bothKinds {
		name := map[api.Kind]string{api.Big: "2b ", api.Small: "2s "}[k]
		past := strconv.Itoa(mostOf(k) + 1)
		pairs := strings.Repeat("00", saltOf(k)+1)
		for _, c := range []struct {
			word string
			e    api.Errno
		}{
			{"digest=0", api.ErrDigest}, {"digest=" + past, api.ErrDigest},
			{"key=" + past, api.ErrKey},
			{"fanout=256", api.ErrFanout},
			{"depth=0", api.ErrDepth}, {"depth=256", api.ErrDepth},
			{"offset=4294967296 xof=1", api.ErrOffset},
			{"node=256", api.ErrRow},
			{"inner=" + past, api.ErrInner},
			{"salt=" + pairs, api.ErrSalt},
			{"personal=" + pairs, api.ErrPersonal},
			{"leaf=4294967296", api.ErrArg}, {"leaf=18446744073709551615", api.ErrArg},
			{"xof=4294967296", api.ErrXof}, {"xof=4294967297", api.ErrXof}, {"xof=18446744073709551615", api.ErrXof},
		} {
			mustRefuseLine(t, name+c.word, 3, c.e)
		}
	}
	mustRefuseLine(t, "2s xof=65536", 3, api.ErrXof)
	mustRefuseLine(t, "2s offset=281474976710656", 3, api.ErrOffset)
	mustRefuseLine(t, "2s digest=33", 3, api.ErrDigest)
}

// TestGreatNumbers: where a number's lower bits alone might be, it must not be taken for them.
func TestGreatNumbers(t *testing.T) { // P2.9, P6
	faults := map[string]api.Errno{"digest": api.ErrDigest, "key": api.ErrKey, "fanout": api.ErrFanout, "depth": api.ErrDepth, "node": api.ErrRow, "inner": api.ErrInner}
	for name, e := range faults {
		for _, n := range []uint64{1<<31 - 1, 1 << 31, 1<<32 - 1, 1 << 32, 1<<32 + 1, 1<<63 - 1, 1 << 63, 1<<63 + 1, math.MaxUint64} {
			for _, kind := range []string{"2b ", "2s "} {
				mustRefuseLine(t, kind+name+"="+strconv.FormatUint(n, 10), 3, e)
			}
		}
		mustRefuseLine(t, "2b "+name+"=18446744073709551616", 3, api.ErrForm)
		mustRefuseLine(t, "2b "+name+"=18446744073709551617", 3, api.ErrForm)
	}
}

func TestLinesThereAndBack(t *testing.T) { // P2.10
	r := rand.New(rand.NewSource(31))
	for range 4000 {
		for _, k := range bothKinds {
			p := someParams(r, k)
			text, e := Show(k, p)
			if e != api.OK || len(text) > api.MaxLine {
				t.Fatalf("Show(%d, %v) = %q, %d", k, p, text, e)
			}
			kind, q, at, e := Read(text)
			if kind != k || at != 0 || e != api.OK || !same(q, normalOf(p)) {
				t.Fatalf("Read(%q) = %d, %v, %d, %d", text, kind, q, at, e)
			}
			if again, _ := Show(k, q); again != text {
				t.Fatalf("Show of Read(%q) = %q", text, again)
			}
		}
	}
}

// TestBrokenLines breaks lines at one place: whatever is answered, its place lies in the text or at its end.
func TestBrokenLines(t *testing.T) { // P2.9, P1
	const letters = "2bs digestkeyfanout=0123456789af \x00\xff"
	r := rand.New(rand.NewSource(32))
	for range 20000 {
		k := bothKinds[r.Intn(2)]
		text, _ := Show(k, someParams(r, k))
		b := []byte(text)
		at := r.Intn(len(b))
		switch r.Intn(3) {
		case 0:
			b[at] = letters[r.Intn(len(letters))]
		case 1:
			b = append(b[:at], b[at+1:]...)
		case 2:
			b = bytes.Join([][]byte{b[:at], {letters[r.Intn(len(letters))]}, b[at:]}, nil)
		}
		kind, p, place, e := Read(string(b))
		if e != api.OK && (place < 0 || place > len(b) || kind != 0 || !isZero(p)) {
			t.Fatalf("Read(%q) = %d, %v, %d, %d", b, kind, p, place, e)
		}
		if e == api.OK && (place != 0 || Check(kind, p) != api.OK) {
			t.Fatalf("Read(%q) = %d, %v, %d, %d", b, kind, p, place, e)
		}
		if e != api.OK && place > 0 && b[place-1] != ' ' {
			t.Fatalf("Read(%q): no word begins at %d", b, place)
		}
	}
}

func TestLineExamples(t *testing.T) { // Example 3
	mustRefuseLine(t, "2b digest=65", 3, api.ErrDigest)
	mustRefuseLine(t, "2b key=1 digest=1", 9, api.ErrForm)
	mustRefuseLine(t, "2b  key=1", 3, api.ErrForm)
	mustRefuseLine(t, "2b depth=0", 3, api.ErrDepth)
	mustRefuseLine(t, "2s salt=010203040506070809", 3, api.ErrSalt)
	mustRefuseLine(t, "", 0, api.ErrForm)
	mustRefuseLine(t, "2b ", 3, api.ErrForm)
}
