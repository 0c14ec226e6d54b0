package clash

import (
	"encoding/hex"
	"fmt"
	"testing"

	"quern/api"
)

// toldSearches are searches among 4096 messages, worked out by another program: the two messages' numbers, and how many were hashed.
func toldSearches() []struct {
	tree                    api.Tree
	from, earlier, later, n int
} {
	return []struct {
		tree                    api.Tree
		from, earlier, later, n int
	}{
		{api.Tree{Kind: api.Big, Digest: 1, Fanout: 2, Depth: 2, Leaf: 1, Inner: 1}, 0, 4, 40, 41},
		{api.Tree{Kind: api.Big, Digest: 1, Fanout: 2, Depth: 2, Leaf: 1, Inner: 1}, 1000, 1003, 1029, 30},
		{api.Tree{Kind: api.Big, Digest: 1, Fanout: 2, Depth: 255, Leaf: 3, Inner: 1, Key: rising(16)}, 0, 3, 7, 8},
		{api.Tree{Kind: api.Big, Digest: 1, Fanout: 2, Depth: 255, Leaf: 3, Inner: 1, Key: rising(16)}, 1000, 1021, 1029, 30},
		{api.Tree{Kind: api.Big, Digest: 1, Fanout: 0, Depth: 3, Leaf: 4, Inner: 1, Key: rising(64), Salt: rising(16), Personal: pattern(16)}, 0, 6, 12, 13},
		{api.Tree{Kind: api.Big, Digest: 1, Fanout: 0, Depth: 3, Leaf: 4, Inner: 1, Key: rising(64), Salt: rising(16), Personal: pattern(16)}, 1000, 1000, 1027, 28},
		{api.Tree{Kind: api.Small, Digest: 1, Fanout: 2, Depth: 2, Leaf: 1, Inner: 1}, 0, 12, 29, 30},
		{api.Tree{Kind: api.Small, Digest: 1, Fanout: 2, Depth: 2, Leaf: 1, Inner: 1}, 1000, 1026, 1055, 56},
		{api.Tree{Kind: api.Small, Digest: 1, Fanout: 2, Depth: 255, Leaf: 3, Inner: 1, Key: rising(8)}, 0, 14, 15, 16},
		{api.Tree{Kind: api.Small, Digest: 1, Fanout: 2, Depth: 255, Leaf: 3, Inner: 1, Key: rising(8)}, 1000, 1000, 1010, 11},
		{api.Tree{Kind: api.Small, Digest: 1, Fanout: 0, Depth: 3, Leaf: 4, Inner: 1, Key: rising(32), Salt: rising(8), Personal: pattern(8)}, 0, 5, 7, 8},
		{api.Tree{Kind: api.Small, Digest: 1, Fanout: 0, Depth: 3, Leaf: 4, Inner: 1, Key: rising(32), Salt: rising(8), Personal: pattern(8)}, 1000, 1012, 1018, 19},
		{api.Tree{Kind: api.Small, Digest: 1, Fanout: 2, Depth: 255, Leaf: 16, Inner: 32}, 1099511627776, 1099511627792, 1099511627796, 21},
		{api.Tree{Kind: api.Big, Digest: 1, Fanout: 3, Depth: 4, Leaf: 5, Inner: 64}, 1099511627769, 1099511627787, 1099511627792, 24},
		{api.Tree{Kind: api.Big, Digest: 2, Fanout: 2, Depth: 2, Leaf: 1, Inner: 2}, 77, 132, 144, 68},
		{api.Tree{Kind: api.Big, Digest: 2, Fanout: 2, Depth: 255, Leaf: 3, Inner: 2, Key: rising(16)}, 77, 133, 183, 107},
		{api.Tree{Kind: api.Small, Digest: 2, Fanout: 2, Depth: 2, Leaf: 1, Inner: 2}, 77, 136, 162, 86},
		{api.Tree{Kind: api.Small, Digest: 2, Fanout: 2, Depth: 255, Leaf: 3, Inner: 2, Key: rising(8)}, 77, 166, 360, 284},
		{api.Tree{Kind: api.Big, Digest: 64, Fanout: 2, Depth: 2, Leaf: 13, Inner: 1}, 0, 30, 40, 41},
		{api.Tree{Kind: api.Small, Digest: 32, Fanout: 3, Depth: 255, Leaf: 100, Inner: 1}, 5, 10, 12, 8},
		{api.Tree{Kind: api.Big, Digest: 3, Fanout: 2, Depth: 2, Leaf: 16, Inner: 32}, 0, 605, 3609, 3610},
		{api.Tree{Kind: api.Small, Digest: 3, Fanout: 2, Depth: 2, Leaf: 16, Inner: 32}, 8192, 10543, 11051, 2860},
		// The last message that may be hashed is the later one.
		{api.Tree{Kind: api.Big, Digest: 3, Fanout: 2, Depth: 2, Leaf: 16, Inner: 32}, 16080, 20115, 20175, 4096},
		{api.Tree{Kind: api.Small, Digest: 3, Fanout: 2, Depth: 2, Leaf: 16, Inner: 32}, 776, 877, 4871, 4096},
	}
}

// toldClashes are pairs of messages, worked out by the same program: where their first unlike calls are, the data of these, and their output.
func toldClashes() []struct {
	tree          api.Tree
	a, b          string
	row           int
	at            uint64
	first, second string
	output        string
} {
	return []struct {
		tree          api.Tree
		a, b          string
		row           int
		at            uint64
		first, second string
		output        string
	}{
		{api.Tree{Kind: api.Big, Digest: 1, Fanout: 2, Depth: 2, Leaf: 1, Inner: 1}, "00040a121c2302", "00040a121c283646582702", 1, 0, "a53da5e65c1d4f", "a53da5e65c0d9e416196a6", "9f"},
		{api.Tree{Kind: api.Big, Digest: 1, Fanout: 2, Depth: 255, Leaf: 3, Inner: 1, Key: rising(16)}, "000300", "00040a121c283646586c820d00", 1, 0, "10", "54b3", "eb"},
		{api.Tree{Kind: api.Big, Digest: 1, Fanout: 2, Depth: 255, Leaf: 3, Inner: 1, Key: rising(16)}, "", "00041201", 1, 0, "15", "3917", "76"},
		{api.Tree{Kind: api.Big, Digest: 1, Fanout: 0, Depth: 3, Leaf: 4, Inner: 1, Key: rising(64), Salt: rising(16), Personal: pattern(16)}, "000300", "00040400", 1, 0, "8e", "c2", "18"},
		{api.Tree{Kind: api.Small, Digest: 1, Fanout: 2, Depth: 2, Leaf: 1, Inner: 1}, "00041201", "00040a121c283646586c821b01", 1, 0, "8b4cbb44", "8b4cdc8d2047823101cbddec33", "52"},
		{api.Tree{Kind: api.Small, Digest: 1, Fanout: 2, Depth: 255, Leaf: 3, Inner: 1, Key: rising(8)}, "000300", "001101", 0, 0, "000300", "001101", "22"},
		{api.Tree{Kind: api.Small, Digest: 1, Fanout: 2, Depth: 255, Leaf: 3, Inner: 1, Key: rising(8)}, "00040a121c2836462602", "00040a121c283646586c822902", 2, 0, "bdd6", "fcfa", "26"},
		{api.Tree{Kind: api.Small, Digest: 1, Fanout: 0, Depth: 3, Leaf: 4, Inner: 1, Key: rising(32), Salt: rising(8), Personal: pattern(8)}, "00040400", "00040a121c2836460a00", 1, 0, "63", "28edd7", "45"},
		{api.Tree{Kind: api.Big, Digest: 16, Fanout: 2, Depth: 255, Leaf: 2, Inner: 1, Salt: rising(16)}, "00040a121c283646586c829ab4", "00040a121c283646586c0054b4", 0, 5, "829a", "0054", "70"},
		{api.Tree{Kind: api.Big, Digest: 16, Fanout: 2, Depth: 255, Leaf: 2, Inner: 1, Key: rising(3), Salt: rising(16)}, "00040a121c283646586c829ab4", "00040a121c2836460008829ab4", 1, 2, "4ed3", "c7d3", "ff"},
		{api.Tree{Kind: api.Big, Digest: 16, Fanout: 2, Depth: 255, Leaf: 2, Inner: 1, Key: rising(3)}, "00040a121c283646586c829ab4", "01ae0a121c283646586c829ab4", 2, 0, "a49a", "239a", "14"},
		{api.Tree{Kind: api.Big, Digest: 16, Fanout: 2, Depth: 2, Leaf: 1, Inner: 1}, "00040a", "ee040a", 0, 0, "00", "ee", "e0"},
		{api.Tree{Kind: api.Small, Digest: 16, Fanout: 2, Depth: 255, Leaf: 2, Inner: 1, Salt: rising(8)}, "00040a121c283646586c829ab4", "00040a121c283646586c0115b4", 0, 5, "829a", "0115", "f0"},
		{api.Tree{Kind: api.Small, Digest: 16, Fanout: 2, Depth: 255, Leaf: 2, Inner: 1, Key: rising(3), Salt: rising(8)}, "00040a121c283646586c829ab4", "00040a121c28364600ff829ab4", 1, 2, "5c26", "b326", "76"},
		{api.Tree{Kind: api.Small, Digest: 16, Fanout: 3, Depth: 3, Leaf: 2, Inner: 1, Key: rising(3), Salt: rising(8)}, "00040a121c283646586c829ab4", "00040a121c28004b586c829ab4", 1, 1, "e54eea", "4f4eea", "57"},
		{api.Tree{Kind: api.Small, Digest: 16, Fanout: 0, Depth: 2, Leaf: 2, Inner: 1, Salt: rising(8)}, "00040a121c283646586c829ab4", "00040a121c283646586c829a19", 0, 6, "b4", "19", "82"},
		{api.Tree{Kind: api.Small, Digest: 16, Fanout: 2, Depth: 2, Leaf: 1, Inner: 1}, "00040a", "ca040a", 0, 0, "00", "ca", "9c"},
		{api.Tree{Kind: api.Big, Digest: 8, Fanout: 2, Depth: 255, Leaf: 1, Inner: 1}, "7172027a", "71720d", 1, 1, "6a7b", "7c", "ca"},
		{api.Tree{Kind: api.Small, Digest: 8, Fanout: 2, Depth: 255, Leaf: 1, Inner: 1}, "717205", "71720b7a", 1, 1, "2a", "fcb3", "e0"},
	}
}

// toldLanes are pairs of messages with one digest of one byte, worked out likewise: so many bytes of pattern, and two numbers' digits behind them.
func toldLanes() []struct {
	kind                  api.Kind
	key, salt, personal   int
	ahead, earlier, later int
	output                string
} {
	return []struct {
		kind                  api.Kind
		key, salt, personal   int
		ahead, earlier, later int
		output                string
	}{
		{api.Big, 0, 0, 0, 0, 0, 17, "a7"},
		{api.Big, 64, 0, 0, 500, 14, 17, "29"},
		{api.Big, 3, 16, 16, 9, 7, 8, "d6"},
		{api.Small, 0, 0, 0, 0, 5, 10, "66"},
		{api.Small, 32, 0, 0, 500, 5, 8, "9c"},
		{api.Small, 3, 8, 8, 9, 11, 19, "d7"},
	}
}

func unhex(t testing.TB, text string) []byte {
	t.Helper()
	b, err := hex.DecodeString(text)
	if err != nil {
		t.Fatal(err)
	}
	return b
}

func TestToldSearches(t *testing.T) { // P12.4
	for i, c := range toldSearches() {
		what := fmt.Sprint("told ", i)
		wantSearch(t, what, c.tree, c.from, 4096, c.earlier, c.later, c.n)
		wantSearch(t, what, c.tree, c.from, c.n, c.earlier, c.later, c.n)
		wantNoSearch(t, what, c.tree, c.from, c.n-1, c.n-1, api.ErrNone)
	}
	// One message further ahead, and the later one is the first that is not hashed.
	for _, c := range []struct {
		kind api.Kind
		from int
	}{{api.Big, 16079}, {api.Small, 775}} {
		x := api.Tree{Kind: c.kind, Digest: 3, Fanout: 2, Depth: 2, Leaf: 16, Inner: 32}
		wantNoSearch(t, "one too far", x, c.from, 4096, 4096, api.ErrNone)
	}
}

func TestToldClashes(t *testing.T) { // P12.2, P12.5, P12.6
	for i, c := range toldClashes() {
		a, b := unhex(t, c.a), unhex(t, c.b)
		x, y, e := Tree(c.tree, a, b)
		if e != api.OK || hex.EncodeToString(x.Data) != c.first || hex.EncodeToString(y.Data) != c.second {
			t.Fatalf("Tree of pair %d: %x and %x, error %d, want %s and %s", i, x.Data, y.Data, e, c.first, c.second)
		}
		row, at, e := Depth(c.tree, a, b)
		if row != c.row || at != c.at || e != api.OK {
			t.Errorf("Depth of pair %d: %d, %d, error %d, want %d, %d", i, row, at, e, c.row, c.at)
		}
		for _, call := range []api.Call{x, y} {
			if out := output(t, call); hex.EncodeToString(out) != c.output {
				t.Errorf("pair %d: output %x, want %s", i, out, c.output)
			}
		}
		wantPair(t, fmt.Sprint("told ", i), c.tree, a, b)
	}
}

func TestToldLanes(t *testing.T) { // P12.3, P12.6
	for i, c := range toldLanes() {
		s := setting{c.kind, 1, rising(c.key), rising(c.salt), pattern(c.personal)}
		a, b := append(pattern(c.ahead), Message(c.earlier)...), append(pattern(c.ahead), Message(c.later)...)
		x, y, e := s.lanes(a, b)
		if e != api.OK {
			t.Fatalf("Lanes of pair %d: error %d", i, e)
		}
		for _, call := range []api.Call{x, y} {
			if out := output(t, call); hex.EncodeToString(out) != c.output {
				t.Errorf("pair %d: output %x, want %s", i, out, c.output)
			}
		}
		s.wantLanes(t, fmt.Sprint("told ", i), a, b)
	}
}
