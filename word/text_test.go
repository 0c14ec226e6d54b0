package word

import (
	"bytes"
	"encoding/base64"
	"encoding/hex"
	"math/rand"
	"strings"
	"testing"

	"quern/api"
)

type reader func(string) ([]byte, int, api.Errno)

type fault struct {
	s  string
	at int
}

func mustRefuse(t *testing.T, name string, read reader, faults []fault) {
	t.Helper()
	for _, f := range faults {
		if b, at, e := read(f.s); e != api.ErrForm || at != f.at || len(b) != 0 {
			t.Errorf("%s(%q): %x, place %d, not %d; %d", name, f.s, b, at, f.at, e)
		}
	}
}

func mustRead(t *testing.T, name string, read reader, s string, want []byte) {
	t.Helper()
	if b, at, e := read(s); e != api.OK || at != 0 || !bytes.Equal(b, want) {
		t.Errorf("%s(%q): %x, place %d, %d; not %x", name, s, b, at, e, want)
	}
}

func allBytes() []byte {
	b := make([]byte, 256)
	for i := range b {
		b[i] = byte(i)
	}
	return b
}

func TestHex(t *testing.T) { // W5
	for _, b := range [][]byte{nil, {}, {0}, {0, 255}, {0x0f, 0xf0, 0x9a, 0xa9}, allBytes()} {
		if s := Hex(b); s != hex.EncodeToString(b) {
			t.Errorf("Hex(%x) = %q", b, s)
		}
	}
	if s := Hex([]byte{0, 255}); s != "00ff" {
		t.Errorf("Hex(00 ff) = %q", s)
	}
}

func TestUnHex(t *testing.T) { // W5
	mustRead(t, "UnHex", UnHex, "", nil)
	mustRead(t, "UnHex", UnHex, "00ff", []byte{0, 255})
	mustRead(t, "UnHex", UnHex, "1f", []byte{0x1f})
	mustRead(t, "UnHex", UnHex, "ABCDEFabcdef0123456789", []byte{0xab, 0xcd, 0xef, 0xab, 0xcd, 0xef, 0x01, 0x23, 0x45, 0x67, 0x89})
	mustRead(t, "UnHex", UnHex, "aAfFaF", []byte{0xaa, 0xff, 0xaf})
	mustRead(t, "UnHex", UnHex, strings.ToUpper(hex.EncodeToString(allBytes())), allBytes())
}

func TestUnHexRefuses(t *testing.T) { // W5
	mustRefuse(t, "UnHex", UnHex, []fault{
		{"0G", 1},
		{"abc", 3},
		{"a", 1},
		{"g", 0},
		{"00 f", 2},
		{"0x00", 1},
		{"zz", 0},
		{"00zz", 2},
		// A byte that is no digit comes ahead of an odd number of them.
		{"abcdeg0", 5},
		{"abcg", 3},
		{"g00", 0},
		{"00\n", 2},
		{"0é", 1},
		{"0000000000000000000000000000000", 31},
		{"\x000", 0},
		{"0\xff", 1},
	})
}

func TestEveryByteAsDigit(t *testing.T) { // W5
	const digits = "0123456789abcdefABCDEF"
	for i := range 256 {
		pair := string([]byte{'0', byte(i)})
		if strings.IndexByte(digits, byte(i)) >= 0 {
			want, _ := hex.DecodeString(pair)
			mustRead(t, "UnHex", UnHex, pair, want)
		} else {
			mustRefuse(t, "UnHex", UnHex, []fault{{pair, 1}, {pair + "0", 1}, {string([]byte{byte(i)}), 0}})
		}
	}
}

func TestBase64(t *testing.T) { // W6
	cases := []struct{ b, s string }{
		{"", ""},
		{"a", "YQ"},
		{"ab", "YWI"},
		{"abc", "YWJj"},
		{"abcd", "YWJjZA"},
		{"\x00", "AA"},
		{"\x00\x00", "AAA"},
		{"\x00\x00\x00", "AAAA"},
		{"\xff", "/w"},
		{"\xff\xff", "//8"},
		{"\xfb\xef\xbe", "++++"},
	}
	for _, c := range cases {
		if s := Base64([]byte(c.b)); s != c.s {
			t.Errorf("Base64(%x) = %q", c.b, s)
		}
		mustRead(t, "UnBase64", UnBase64, c.s, []byte(c.b))
	}
	if s := Base64(nil); s != "" {
		t.Errorf("Base64(nil) = %q", s)
	}
	for n := range 257 {
		b := allBytes()[:n]
		if s := Base64(b); s != base64.RawStdEncoding.EncodeToString(b) {
			t.Errorf("Base64 of %d bytes: %q", n, s)
		}
	}
}

func TestUnBase64Refuses(t *testing.T) { // W6
	mustRefuse(t, "UnBase64", UnBase64, []fault{
		{"YR", 1},
		{"Y", 1},
		{"Y=", 1},
		// No letter: ahead of a length, and of bits, that can't be.
		{"=", 0},
		{"YQ==", 2},
		{"YWI=", 3},
		{"YWJjZ-", 5},
		{"YWJj_A", 4},
		{"YWJj\n", 4},
		{"YW Jj", 2},
		{"YWJjé", 4},
		{"\x00QQQ", 0},
		{"YR*", 2},
		{"YRR*Y", 3},
		// The length leaves 1.
		{"YWJjZ", 5},
		{"AAAAAAAAA", 9},
		{"/////", 5},
		// Bits that belong to no byte.
		{"AB", 1},
		{"AP", 1},
		{"AAB", 2},
		{"AAD", 2},
		{"YWJjZB", 5},
		{"YWJjZGF", 6},
		{"//", 1},
		{"///", 2},
		{"YWJjYWJjYR", 9},
	})
	mustRead(t, "UnBase64", UnBase64, "AQ", []byte{1})
	mustRead(t, "UnBase64", UnBase64, "AAE", []byte{0, 0x01})
}

func TestEveryByteAsLetter(t *testing.T) { // W6
	const letters = "ABCDEFGHIJKLMNOPQRSTUVWXYZabcdefghijklmnopqrstuvwxyz0123456789+/"
	for i := range 256 {
		four := string([]byte{'A', 'A', 'A', byte(i)})
		if worth := strings.IndexByte(letters, byte(i)); worth >= 0 {
			mustRead(t, "UnBase64", UnBase64, four, []byte{0, 0, byte(worth)})
		} else {
			mustRefuse(t, "UnBase64", UnBase64, []fault{{four, 3}, {four + "A", 3}, {string([]byte{byte(i)}), 0}})
		}
	}
}

// TestShortBase64 goes through all texts of two letters, and of three that begin alike: taken are just those that Base64 writes.
func TestShortBase64(t *testing.T) { // W6, W7
	const letters = "ABCDEFGHIJKLMNOPQRSTUVWXYZabcdefghijklmnopqrstuvwxyz0123456789+/"
	strict := base64.RawStdEncoding.Strict()
	for i := range 64 {
		for j := range 64 {
			for _, head := range []string{"", "q", "qrst"} {
				s := head + string([]byte{letters[i], letters[j]})
				want, err := strict.DecodeString(s)
				if err != nil {
					mustRefuse(t, "UnBase64", UnBase64, []fault{{s, len(s) - 1}})
					continue
				}
				mustRead(t, "UnBase64", UnBase64, s, want)
				if back := Base64(want); back != s {
					t.Errorf("Base64(UnBase64(%q)) = %q", s, back)
				}
			}
		}
	}
}

func TestThereAndBackTexts(t *testing.T) { // W7
	r := rand.New(rand.NewSource(3))
	for n := range 200 {
		b := someBytes(r, n)
		mustRead(t, "UnHex", UnHex, Hex(b), b)
		mustRead(t, "UnBase64", UnBase64, Base64(b), b)
	}
}

func TestReadIsNewMemory(t *testing.T) { // P4
	for name, read := range map[string]reader{"UnHex": UnHex, "UnBase64": UnBase64} {
		first, _, _ := read("abcdef00")
		second, _, _ := read("abcdef00")
		want := bytes.Clone(second)
		for i := range first[:cap(first)] {
			first[:cap(first)][i] ^= 0xff
		}
		if third, _, _ := read("abcdef00"); !bytes.Equal(second, want) || !bytes.Equal(third, want) {
			t.Errorf("%s: two answers share memory", name)
		}
	}
}
