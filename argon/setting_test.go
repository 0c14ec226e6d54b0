package argon_test

import (
	"fmt"
	"math"
	"math/rand"
	"testing"

	"quern/api"
	"quern/argon"
)

// goodSettings have each field at its least, at its greatest and at numbers between, whatever the others are.
func goodSettings() []api.Argon {
	var list []api.Argon
	for kind := range 3 {
		for lanes := 1; lanes <= 8; lanes++ {
			for _, memory := range []int{8 * lanes, 8*lanes + 1, 12*lanes - 1, 12 * lanes, 64, 100, 1023, 4095, 4096} {
				for _, passes := range []int{1, 2, 15, 16} {
					for _, tag := range []int{4, 5, 64, 65, 1023, 1024} {
						list = append(list, api.Argon{Kind: kind, Memory: memory, Passes: passes, Lanes: lanes, Tag: tag})
					}
				}
			}
		}
	}
	return list
}

// ends are numbers that no field may be, and numbers that would be one in fewer bits.
func ends() []int {
	return []int{-1, math.MinInt, math.MinInt + 1, math.MaxInt, math.MaxInt - 1, 1 << 32, 1<<32 + 1, 1<<32 + 8, 1<<32 + 32, 1 << 31, 1<<31 - 1, -1 << 31, -1 << 32, 1 << 16, 1<<16 + 32, 1 << 61, 1<<61 + 1, 1<<61 + 4, -1 << 61, 1 << 62, 1<<60 + 1}
}

// badSettings have one field that may not be.
func badSettings() []api.Argon {
	var list []api.Argon
	for _, good := range []api.Argon{chapters(api.ArgonID), {Kind: 0, Memory: 8, Passes: 1, Lanes: 1, Tag: 4}, {Kind: 1, Memory: 4096, Passes: 16, Lanes: 8, Tag: 1024}, {Kind: 2, Memory: 64, Passes: 2, Lanes: 8, Tag: 64}} {
		set := func(change func(a *api.Argon, n int), numbers ...int) {
			for _, n := range append(ends(), numbers...) {
				a := good
				change(&a, n)
				list = append(list, a)
			}
		}
		set(func(a *api.Argon, n int) { a.Kind = n }, 3, 4)
		set(func(a *api.Argon, n int) { a.Memory = n }, 0, 1, 8*good.Lanes-1, 4097)
		set(func(a *api.Argon, n int) { a.Passes = n }, 0, 17)
		set(func(a *api.Argon, n int) { a.Lanes = n }, 0, 9)
		set(func(a *api.Argon, n int) { a.Tag = n }, 0, 1, 3, 1025)
	}
	return append(list, api.Argon{}, setting(0, 31, 1, 4), setting(0, 32, 1, 5), setting(0, 7, 1, 1), setting(0, 63, 1, 8), setting(0, 0, 1, 1<<61), setting(0, 8, 1, 1<<61+1), setting(0, 72, 1, 9), setting(0, 0, 1, 0), setting(0, -8, 1, -1))
}

// badSalts are of a wrong length.
func badSalts() [][]byte {
	return [][]byte{nil, {}, rising(1), rising(7), rising(65), rising(1024), rising(72)[:7], rising(1 << 17)}
}

func TestCheck(t *testing.T) { // P20.1
	for _, a := range goodSettings() {
		for _, n := range []int{8, 9, 16, 63, 64} {
			if e := argon.Check(a, rising(n)); e != api.OK {
				t.Errorf("%+v, a salt of %d: %d", a, n, e)
			}
		}
		for _, salt := range badSalts() {
			if e := argon.Check(a, salt); e != api.ErrGrain {
				t.Errorf("%+v, a salt of %d: %d, want ErrGrain", a, len(salt), e)
			}
		}
	}
	for _, a := range badSettings() {
		for _, salt := range append(badSalts(), rising(8), rising(64)) {
			if e := argon.Check(a, salt); e != api.ErrArgon {
				t.Errorf("%+v, a salt of %d: %d, want ErrArgon", a, len(salt), e)
			}
		}
	}
}

func TestBounds(t *testing.T) { // P20.1, Limits
	for _, x := range [][2]int{{api.MaxLanes, 8}, {api.MaxMemory, 4096}, {api.MaxPasses, 16}, {api.MinTag, 4}, {api.MaxTag, 1024}, {api.MaxWord, 65536}, {api.MinSalt, 8}, {api.MaxSalt, 64}, {api.MaxSecret, 64}, {api.MaxExtra, 1024}} {
		if x[0] != x[1] {
			t.Errorf("a limit is %d, want %d", x[0], x[1])
		}
	}
	may := func(a api.Argon) bool {
		return a.Kind >= 0 && a.Kind <= 2 && a.Lanes >= 1 && a.Lanes <= 8 && a.Memory >= 8*a.Lanes && a.Memory <= 4096 && a.Passes >= 1 && a.Passes <= 16 && a.Tag >= 4 && a.Tag <= 1024
	}
	r := rand.New(rand.NewSource(20))
	for range 20000 {
		a := api.Argon{Kind: r.Intn(5) - 1, Memory: r.Intn(80), Passes: r.Intn(19) - 1, Lanes: r.Intn(11) - 1, Tag: r.Intn(9)}
		if r.Intn(2) == 0 {
			a.Memory, a.Tag = 4080+r.Intn(30), 1015+r.Intn(12)
		}
		want := api.ErrArgon
		if may(a) {
			want = api.OK
		}
		if e := argon.Check(a, rising(8)); e != want {
			t.Errorf("%+v: %d, want %d", a, e, want)
		}
	}
}

func TestColumns(t *testing.T) { // P20.1
	for lanes := 1; lanes <= 8; lanes++ {
		for memory := 8 * lanes; memory <= 4096; memory++ {
			for kind := range 3 {
				a := setting(kind, memory, 1, lanes)
				n, e := argon.Columns(a)
				// The columns are the most that are a multiple of four and, of all lanes, no more than what is asked for.
				if e != api.OK || n%4 != 0 || n*lanes > memory || (n+4)*lanes <= memory {
					t.Fatalf("%+v: %d columns, error %d", a, n, e)
				}
			}
		}
	}
	for _, x := range [][3]int{{32, 4, 8}, {8, 1, 8}, {11, 1, 8}, {12, 1, 12}, {47, 4, 8}, {48, 4, 12}, {64, 8, 8}, {95, 8, 8}, {96, 8, 12}, {4096, 1, 4096}, {4095, 1, 4092}, {4096, 8, 512}, {4096, 3, 1364}, {4096, 7, 584}} {
		if n, e := argon.Columns(setting(api.ArgonI, x[0], 16, x[1])); n != x[2] || e != api.OK {
			t.Errorf("%d blocks, %d lanes: %d columns, error %d, want %d", x[0], x[1], n, e, x[2])
		}
	}
}

func TestColumnsRefuses(t *testing.T) { // P20.1, P1, P2
	for _, a := range badSettings() {
		n, e := argon.Columns(a)
		wantNone(t, fmt.Sprintf("Columns of %+v", a), n, e, api.ErrArgon)
	}
}

func TestStart(t *testing.T) { // P20.1
	r := rand.New(rand.NewSource(21))
	for i, a := range goodSettings() {
		if i%7 > 0 {
			continue
		}
		in := someWords(r)
		got, e := argon.Start(a, in[0], in[1], in[2], in[3])
		wantBytes(t, fmt.Sprintf("Start of %+v", a), got, e, startByWords(t, a, in))
	}
}

func TestStartAtTheBounds(t *testing.T) { // P20.1, P3, Limits
	a := chapters(api.ArgonI)
	lengths := [4][]int{{0, 1, 127, 128, 65535, 65536}, {8, 9, 63, 64}, {0, 1, 63, 64}, {0, 1, 1023, 1024}}
	for _, n0 := range lengths[0] {
		for _, n1 := range lengths[1] {
			for _, n2 := range lengths[2] {
				for _, n3 := range lengths[3] {
					in := words{pattern(n0), rising(n1), pattern(n2), rising(n3)}
					got, e := argon.Start(a, in[0], in[1], in[2], in[3])
					wantBytes(t, fmt.Sprint("Start of ", n0, n1, n2, n3), got, e, startByWords(t, a, in))
				}
			}
		}
	}
	none, e := argon.Start(a, nil, rising(8), nil, nil)
	wantBytes(t, "Start of nil", none, e, startByWords(t, a, words{1: rising(8)}))
	got, e := argon.Start(a, []byte{}, rising(8), []byte{}, rising(9)[:0])
	wantBytes(t, "Start of no bytes", got, e, none)
}

func TestStartTellsPartsApart(t *testing.T) { // P20.1: each part has its length ahead
	a := chapters(api.ArgonD)
	seen := map[string]string{}
	for _, cut := range [][3]int{{0, 8, 8}, {0, 8, 16}, {0, 16, 16}, {8, 16, 16}, {8, 16, 24}, {16, 24, 24}, {8, 24, 24}, {0, 24, 24}, {16, 24, 32}, {1, 9, 10}} {
		b := often(32, 7)
		h, e := argon.Start(a, b[:cut[0]], b[cut[0]:cut[1]], b[cut[1]:cut[2]], b[cut[2]:])
		if e != api.OK || len(h) != 64 {
			t.Errorf("cuts %v: %d bytes, error %d", cut, len(h), e)
		}
		if other, is := seen[string(h)]; is {
			t.Errorf("cuts %v and %s have one start", cut, other)
		}
		seen[string(h)] = fmt.Sprint(cut)
	}
}

// inputsCall is a call that takes a setting and words, and tells how much there is beside its error.
type inputsCall struct {
	what string
	do   func(a api.Argon, in words) (int, api.Errno)
}

func inputsCalls() []inputsCall {
	verify := func(tag func(a api.Argon) []byte) func(a api.Argon, in words) (int, api.Errno) {
		return func(a api.Argon, in words) (int, api.Errno) {
			is, e := argon.Verify(a, tag(a), in[0], in[1], in[2], in[3])
			if is {
				return 1, e
			}
			return 0, e
		}
	}
	list := func(do func(a api.Argon, pass, salt, secret, extra []byte) ([]byte, api.Errno)) func(a api.Argon, in words) (int, api.Errno) {
		return func(a api.Argon, in words) (int, api.Errno) {
			b, e := do(a, in[0], in[1], in[2], in[3])
			return len(b), e
		}
	}
	return []inputsCall{
		{"Start", list(argon.Start)},
		{"Hash", list(argon.Hash)},
		{"Beside", list(argon.Beside)},
		{"Verify", verify(func(a api.Argon) []byte { return make([]byte, min(max(a.Tag, 0), 2000)) })},
		{"Verify of no tag", verify(func(api.Argon) []byte { return nil })},
		{"Verify of a long tag", verify(func(api.Argon) []byte { return make([]byte, 1025) })},
	}
}

func TestBadSettingsAheadOfAll(t *testing.T) { // P20.1, P20.5, P1, P2
	bad := words{rising(65537), rising(7), rising(65), rising(1025)}
	for _, a := range badSettings() {
		for _, c := range inputsCalls() {
			n, e := c.do(a, examples())
			wantNone(t, fmt.Sprintf("%s of %+v", c.what, a), n, e, api.ErrArgon)
			n, e = c.do(a, bad)
			wantNone(t, fmt.Sprintf("%s of %+v and bad words", c.what, a), n, e, api.ErrArgon)
			n, e = c.do(a, words{})
			wantNone(t, fmt.Sprintf("%s of %+v and no words", c.what, a), n, e, api.ErrArgon)
		}
	}
}

// faultOfWords is the error that the chapter names first.
func faultOfWords(in words) api.Errno {
	switch {
	case len(in[0]) > 65536:
		return api.ErrLong
	case len(in[1]) < 8 || len(in[1]) > 64:
		return api.ErrGrain
	case len(in[2]) > 64 || len(in[3]) > 1024:
		return api.ErrLong
	}
	return api.OK
}

func TestBadWordsInTheirOrder(t *testing.T) { // P20.1, P20.5, P2, Limits
	lengths := [4][]int{{0, 65536, 65537, 1 << 20}, {8, 64, 0, 7, 65, 4000}, {0, 64, 65, 5000}, {0, 1024, 1025, 70000}}
	a := setting(api.ArgonI, 8, 1, 1)
	for _, n0 := range lengths[0] {
		for _, n1 := range lengths[1] {
			for _, n2 := range lengths[2] {
				for _, n3 := range lengths[3] {
					in := words{make([]byte, n0), make([]byte, n1), make([]byte, n2), make([]byte, n3)}
					right := faultOfWords(in)
					if right == api.OK {
						continue
					}
					for _, c := range inputsCalls() {
						n, e := c.do(a, in)
						wantNone(t, fmt.Sprint(c.what, " of ", n0, n1, n2, n3), n, e, right)
					}
				}
			}
		}
	}
}

func TestExampleSettings(t *testing.T) { // the chapter's second example
	if n, e := argon.Columns(chapters(api.ArgonID)); n != 8 || e != api.OK {
		t.Errorf("Columns: %d %d", n, e)
	}
	a := chapters(api.ArgonID)
	a.Memory = 31
	if e := argon.Check(a, rising(16)); e != api.ErrArgon {
		t.Errorf("31 blocks: %d", e)
	}
	if e := argon.Check(chapters(api.ArgonID), rising(7)); e != api.ErrGrain {
		t.Errorf("a salt of 7: %d", e)
	}
}
