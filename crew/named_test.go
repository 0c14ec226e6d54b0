package crew

import (
	"bytes"
	"fmt"
	"math"
	"slices"
	"strings"
	"testing"

	"quern/api"
	"quern/lane"
	"quern/node"
	"quern/xof"
)

// hash is a hash by its name, as the chapter's words have it.
type hash struct {
	name  string
	most  int // bytes that come out
	key   int // the most bytes of a key
	right func(size int, key, data []byte) ([]byte, api.Errno)
}

func plainOf(k api.Kind) func(int, []byte, []byte) ([]byte, api.Errno) {
	return func(size int, key, data []byte) ([]byte, api.Errno) {
		p := api.Params{Digest: size, Key: len(key), Fanout: 1, Depth: 1}
		return node.Hash(k, p, key, false, size, data)
	}
}

func lanesOf(k api.Kind) func(int, []byte, []byte) ([]byte, api.Errno) {
	return func(size int, key, data []byte) ([]byte, api.Errno) {
		return lane.Digest(k, size, key, nil, nil, data)
	}
}

func streamOf(k api.Kind) func(int, []byte, []byte) ([]byte, api.Errno) {
	return func(size int, key, data []byte) ([]byte, api.Errno) {
		s, e := xof.New(k, size, key, nil, nil)
		if e != api.OK {
			return nil, e
		}
		s.Write(data)
		return s.Read(size)
	}
}

func hashes() []hash {
	return []hash{
		{"blake2b", 64, 64, plainOf(api.Big)},
		{"blake2s", 32, 32, plainOf(api.Small)},
		{"blake2bp", 64, 64, lanesOf(api.Big)},
		{"blake2sp", 32, 32, lanesOf(api.Small)},
		{"blake2xb", 1 << 16, 64, streamOf(api.Big)},
		{"blake2xs", 1<<16 - 2, 32, streamOf(api.Small)},
	}
}

func TestNamed(t *testing.T) { // CR5: held against node, lane and xof: each name, sizes, keys and data at their edges
	for _, h := range hashes() {
		for _, size := range []int{1, 2, 31, 32, 33, 63, 64, 65, 100, 1000, 65533, 65534, 65535, 65536} {
			if size > h.most {
				continue
			}
			for _, key := range []int{0, 1, 5, h.key - 1, h.key} {
				for _, n := range []int{0, 1, 3, 63, 64, 65, 128, 129, 1000, 5000} {
					if size > 1000 && n > 3 && n != 1000 {
						continue
					}
					right, e := h.right(size, rising(key), pattern(n))
					sure(t, h.name, right, e)
					if len(right) != size {
						t.Fatalf("%s: %d bytes, want %d", h.name, len(right), size)
					}
					got, e := Named(h.name, size, rising(key), pattern(n))
					wantBytes(t, fmt.Sprintf("%s, size %d, key %d, %d bytes", h.name, size, key, n), got, e, right)
				}
			}
		}
	}
}

func TestNamedOfNilAndEmpty(t *testing.T) { // P3
	for _, h := range hashes() {
		right, e := h.right(16, nil, nil)
		sure(t, h.name, right, e)
		for _, key := range [][]byte{nil, {}} {
			for _, data := range [][]byte{nil, {}} {
				got, e := Named(h.name, 16, key, data)
				wantBytes(t, h.name, got, e, right)
			}
		}
	}
}

func TestNamedRefusesSizes(t *testing.T) { // CR5: ErrArg, ahead of the key's error
	for _, h := range hashes() {
		for _, size := range []int{0, -1, h.most + 1, h.most + 2, 1 << 20, 1<<32 + 1, 1<<32 - 1, math.MinInt, math.MaxInt} {
			for _, key := range []int{0, h.key, h.key + 1, 1000} {
				got, e := Named(h.name, size, rising(key), pattern(5))
				wantNone(t, fmt.Sprintf("%s, size %d, key %d", h.name, size, key), got, e, api.ErrArg)
			}
		}
	}
	for _, size := range []int{api.Unknown, 65535, 65536} {
		got, e := Named("blake2xs", size, nil, nil)
		wantNone(t, fmt.Sprint("blake2xs, size ", size), got, e, api.ErrArg)
	}
}

func TestNamedRefusesKeys(t *testing.T) { // CR5
	for _, h := range hashes() {
		for _, size := range []int{1, 32, h.most} {
			for _, key := range []int{h.key + 1, h.key + 2, 128, 256, 256 + h.key, 1 << 16} {
				got, e := Named(h.name, size, rising(key), pattern(5))
				wantNone(t, fmt.Sprintf("%s, size %d, key %d", h.name, size, key), got, e, api.ErrKey)
			}
		}
	}
}

func TestNamedRefusesNames(t *testing.T) { // CR5: ErrVariant, ahead of all else
	wrong := []string{"", " ", "md5", "blake2", "blake2x", "blake2p", "blake2xp", "blake3", "blake", "b", "2b", "blake2b\x00", "blake2b\n", "blake2bpp", "blake2xsp", "blake2bx", "blakе2b", "\xff"}
	for _, h := range hashes() {
		wrong = append(wrong, strings.ToUpper(h.name), strings.ToUpper(h.name[:1])+h.name[1:], h.name+" ", " "+h.name, h.name+h.name, h.name[:len(h.name)-2], h.name+"-512")
	}
	for _, name := range wrong {
		for _, size := range []int{0, -1, 1, 32, 1 << 17} {
			for _, key := range []int{0, 1, 65} {
				got, e := Named(name, size, rising(key), pattern(5))
				wantNone(t, fmt.Sprintf("%q, size %d, key %d", name, size, key), got, e, api.ErrVariant)
			}
		}
	}
}

func TestNames(t *testing.T) { // CR5, P4: the six in order, new memory each time
	right := []string{"blake2b", "blake2s", "blake2bp", "blake2sp", "blake2xb", "blake2xs"}
	for range 3 {
		got := Names()
		if !slices.Equal(got, right) {
			t.Fatalf("Names: %q", got)
		}
		for _, name := range got {
			if _, e := Named(name, 1, nil, nil); e != api.OK {
				t.Errorf("%s: error %d", name, e)
			}
		}
		got = got[:cap(got)]
		for i := range got {
			got[i] = "other"
		}
	}
}

func TestNamedChangesNothing(t *testing.T) { // P4: key and data stay as they were; answers are new memory
	for _, h := range hashes() {
		key, stillKey := roomy(rising(9))
		data, stillData := roomy(pattern(700))
		right, e := h.right(32, rising(9), pattern(700))
		sure(t, h.name, right, e)
		first, e := Named(h.name, 32, key, data)
		wantBytes(t, h.name, first, e, right)
		second, e := Named(h.name, 32, key, data)
		spoil(first, 0xee)
		wantBytes(t, h.name+", the other answer", second, e, right)
		if !stillKey() || !stillData() {
			t.Errorf("%s: what was handed in has changed", h.name)
		}
		spoil(key, 0x11)
		spoil(data, 0x22)
		wantBytes(t, h.name+", behind changed arguments", second, e, right)
		third, e := Named(h.name, 32, key, data)
		again, _ := h.right(32, bytes.Repeat([]byte{0x11}, 9), bytes.Repeat([]byte{0x22}, 700))
		wantBytes(t, h.name+", of changed arguments", third, e, again)
	}
}
