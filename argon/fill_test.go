package argon_test

import (
	"crypto/sha256"
	"encoding/hex"
	"fmt"
	"math/rand"
	"slices"
	"testing"

	"quern/api"
	"quern/argon"
)

// memories are settings with one lane and several, one pass and several, each kind.
func memories() []api.Argon {
	var list []api.Argon
	for kind := range 3 {
		for _, x := range [][3]int{{8, 1, 1}, {8, 3, 1}, {11, 2, 1}, {12, 4, 1}, {64, 3, 1}, {16, 2, 2}, {33, 3, 3}, {32, 3, 4}, {48, 2, 4}, {64, 2, 8}, {127, 3, 8}, {200, 1, 5}, {150, 16, 2}, {511, 2, 1}, {520, 3, 1}} {
			list = append(list, setting(kind, x[0], x[1], x[2]))
		}
	}
	return list
}

func TestFillByWords(t *testing.T) { // P20.4
	t.Parallel()
	r := rand.New(rand.NewSource(25))
	for _, a := range memories() {
		start := someBytes(r, 64)
		got, e := argon.Fill(a, start)
		wantSame(t, fmt.Sprintf("Fill of %+v", a), got, e, fillByWords(a, start))
	}
}

func TestFillOfMuchMemory(t *testing.T) { // P20.4, Limits
	t.Parallel()
	for _, a := range []api.Argon{setting(api.ArgonD, 4096, 2, 8), setting(api.ArgonID, 4096, 1, 1), setting(api.ArgonI, 1100, 16, 1)} {
		got, e := argon.Fill(a, rising(64))
		wantSame(t, fmt.Sprintf("Fill of %+v", a), got, e, fillByWords(a, rising(64)))
	}
}

func TestFillIsOfTheGridAlone(t *testing.T) { // P20.4: neither the tag nor blocks asked for in vain go in
	for kind := range 3 {
		right, e := argon.Fill(setting(kind, 32, 2, 4), rising(64))
		if e != api.OK {
			t.Fatal(e)
		}
		for _, memory := range []int{33, 40, 47} {
			a := setting(kind, memory, 2, 4)
			a.Tag = memory
			got, e := argon.Fill(a, rising(64))
			if e != api.OK || !slices.EqualFunc(got, right, slices.Equal) {
				t.Errorf("%+v: other blocks than of 32, error %d", a, e)
			}
		}
	}
}

func TestFillRefuses(t *testing.T) { // P20.4, P1, P2, P3
	for _, a := range []api.Argon{chapters(api.ArgonD), chapters(api.ArgonI), chapters(api.ArgonID), setting(1, 8, 1, 1), setting(2, 4096, 16, 8)} {
		for _, start := range [][]byte{nil, {}, rising(1), rising(32), rising(63), rising(65), rising(72), rising(128), rising(1024), rising(1 << 16), make([]byte, 0, 64), rising(64)[:63]} {
			got, e := argon.Fill(a, start)
			wantNone(t, fmt.Sprintf("Fill of %+v, %d bytes", a, len(start)), len(got), e, api.ErrArg)
		}
	}
	for _, a := range badSettings() {
		for _, start := range [][]byte{nil, rising(63), rising(64), rising(65)} {
			got, e := argon.Fill(a, start)
			wantNone(t, fmt.Sprintf("Fill of %+v, %d bytes", a, len(start)), len(got), e, api.ErrArgon)
		}
	}
}

func TestMemoriesToldByTheOtherProgram(t *testing.T) { // P20.4
	for _, x := range toldMemories {
		got, e := argon.Fill(x.a, pattern(64))
		digest := sha256.Sum256(slices.Concat(got...))
		if e != api.OK || len(got) != x.n || hex.EncodeToString(digest[:]) != x.digest {
			t.Errorf("%+v: %d blocks with the digest %x, error %d, want %d with %s", x.a, len(got), digest, e, x.n, x.digest)
		}
	}
}

func TestStartThenFillThenTag(t *testing.T) { // P20.1, P20.4, P20.5
	r := rand.New(rand.NewSource(26))
	for _, a := range memories() {
		in := someWords(r)
		a.Tag = 4 + r.Intn(200)
		start, _ := argon.Start(a, in[0], in[1], in[2], in[3])
		list, e := argon.Fill(a, start)
		if e != api.OK {
			t.Fatalf("%+v: %d", a, e)
		}
		var m filled
		for lane := range slices.Chunk(list, len(list)/a.Lanes) {
			m = append(m, lane)
		}
		got, e := argon.Hash(a, in[0], in[1], in[2], in[3])
		wantBytes(t, fmt.Sprintf("Hash of %+v", a), got, e, m.tag(a))
	}
}
