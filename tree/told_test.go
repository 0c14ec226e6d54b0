package tree

import (
	"encoding/hex"
	"testing"

	"quern/api"
)

// toldTrees are trees over pattern(n), with the digest and the output of the last leaf, worked out by another program.
func toldTrees() []struct {
	tree         api.Tree
	n            int
	digest, leaf string
} {
	return []struct {
		tree         api.Tree
		n            int
		digest, leaf string
	}{
		{api.Tree{Kind: api.Big, Digest: 32, Fanout: 2, Depth: 3, Leaf: 4, Inner: 16}, 9, "a92011b2b4989cff820a5ac928dc187b5f3a4894173cebc52476cb616f77bc71", "a611fb797b474caa377c721de5d706df"},
		{api.Tree{Kind: api.Big, Digest: 64, Fanout: 0, Depth: 2, Leaf: 64, Inner: 64}, 1000, "f89c0c6decc7884b9da484e4ca6d8a102c405826a8af059fe96beeca5b49452ec250f8fbf354a507909946566f657f2e02cf9a5a4f5c61a1fa1757854f4e889b", "1dd04506f5db3bd0369f85169b0fc59b29a901f460831b54bdc00f2853b7acea7e8e93d5025331b4d8aa1d46fb535859e245d71e02841d2f1cd8f950a23da254"},
		{api.Tree{Kind: api.Big, Digest: 64, Fanout: 2, Depth: 255, Leaf: 1, Inner: 64, Salt: rising(16), Personal: pattern(17)[1:]}, 37, "671f55d28e59fb3c0817362cb6ec8e55a9880aded5ec86297b761d56f9638e57724343a76fef6caf4083a2b5cbce485778ba3913726b8e072517c1ac9965b165", "cbf18cf903a7396ed58b057ba677f566e34d9a97854e8727c392712a9df523d8f238011a5330a5b1dca3caa3e63a319704924c59b3749783f4dc331c6bbeb5d9"},
		{api.Tree{Kind: api.Big, Digest: 64, Fanout: 3, Depth: 255, Leaf: 100, Inner: 20, Key: rising(64), Salt: rising(16), Personal: pattern(17)[1:]}, 2000, "966c2880d64f38738afb5453975a39616d4d66865d8729457277162032144516327d3f2a016d8703e1dcc6b6ac49bcd25d8bcf2d88bdda4716b12230c14ad36f", "e20a7530e2ecec6e751d5c9f90ff007f76145955"},
		{api.Tree{Kind: api.Big, Digest: 1, Fanout: 255, Depth: 255, Leaf: 3, Inner: 1, Key: rising(7), Personal: pattern(17)[1:]}, 800, "ba", "1e"},
		{api.Tree{Kind: api.Big, Digest: 63, Fanout: 2, Depth: 2, Leaf: 4096, Inner: 64, Salt: rising(16)}, 0, "223aa7bc63b2147ddcffa5a7fec67b1613622a57053fed26b61a4f49ce4e1f1b6c56e226ee3ee63d17086c811b5d854c507eb01483a536e3cd272c38fa32f4", "a009b203508bfee6ee99e610152aba2cb9f2bb2bcc994389fcfebf3c8ae8caeff16340a2658fc9fce0a08f1b489f3300df496a5201442853e079b05e0da88c40"},
		{api.Tree{Kind: api.Big, Digest: 64, Fanout: 3, Depth: 4, Leaf: 2, Inner: 63, Key: rising(1)}, 77, "e1b5728af844bccf2f7d3157850b00b21328934da6d2693e4cf3be7b3d17b8002b9cb6dd6f064d4afb3d09d64eae67e9ee21461e2c476d286a459504fb845fa6", "72cdfccd7ebdf1c24ea0b46d7d9decd57c364363c267ef3f7503b80cdace458f27108d98a60d744a8c1491e457932b823efba046156619f58c43bb25fc003a"},
		{api.Tree{Kind: api.Small, Digest: 16, Fanout: 2, Depth: 3, Leaf: 4, Inner: 16}, 9, "3a0e0afad401018414372c688e4c453a", "fe77bee1a5b1a093989978be001c5508"},
		{api.Tree{Kind: api.Small, Digest: 32, Fanout: 0, Depth: 2, Leaf: 64, Inner: 32}, 1000, "57effe3c80bff20521a42637d214e30d646c11d389a5f5748ad4675d1f0fc1bd", "a4d3fe6f7995604457cee30b63034ca52a05d9d6d8c544759e3980b0ba1397eb"},
		{api.Tree{Kind: api.Small, Digest: 32, Fanout: 2, Depth: 255, Leaf: 1, Inner: 32, Salt: rising(8), Personal: pattern(9)[1:]}, 37, "724cf7d5da122134a8c550b3b0c2e8c582d43600f61363871ebe2d543c986a13", "4268e6441cd55f16fdecf80acb033c5294be7419e339311cdf661697e9a6f09b"},
		{api.Tree{Kind: api.Small, Digest: 32, Fanout: 3, Depth: 255, Leaf: 100, Inner: 20, Key: rising(32), Salt: rising(8), Personal: pattern(9)[1:]}, 2000, "48ffc6b4640f48885b6b852b1a0c51b855d62a94ef3efdcfdc0aa3fa69cd705d", "cc15fcf0d6d14fd9641a520a3d9a082a3205dbc2"},
		{api.Tree{Kind: api.Small, Digest: 1, Fanout: 255, Depth: 255, Leaf: 3, Inner: 1, Key: rising(7), Personal: pattern(9)[1:]}, 800, "36", "74"},
		{api.Tree{Kind: api.Small, Digest: 31, Fanout: 2, Depth: 2, Leaf: 4096, Inner: 32, Salt: rising(8)}, 0, "68c664e06e4f882f4eccfb21ee64ca7ca4bacf98ac7aaf3c7009b52776433f", "93a71c4c51cde7a3d217d05aa1c55fc5a74d6bbf7b7efe39173346042c11ae8c"},
		{api.Tree{Kind: api.Small, Digest: 32, Fanout: 3, Depth: 4, Leaf: 2, Inner: 31, Key: rising(1)}, 77, "dd78c514ad1cff6505cee11442e503d34c3cf83c250c6a414287557cf0f02fee", "ae6ff3d9e558ef5e05cca3a409a5911747cb4a1977d2833b5c49bd312cbdd3"},
	}
}

func TestToldDigests(t *testing.T) { // P10.1, P10.4
	for i, c := range toldTrees() {
		digest, e := Hash(c.tree, pattern(c.n))
		if hex.EncodeToString(digest) != c.digest || e != api.OK {
			t.Errorf("Hash of tree %d: %x, error %d, want %s", i, digest, e, c.digest)
		}
		leaves, e := Leaves(c.tree, pattern(c.n))
		if e != api.OK || hex.EncodeToString(leaves[len(leaves)-1]) != c.leaf {
			t.Errorf("Leaves of tree %d: %x, error %d, want %s at the end", i, leaves, e, c.leaf)
		}
		digest, e = Fold(c.tree, uint64(c.n), leaves)
		if hex.EncodeToString(digest) != c.digest || e != api.OK {
			t.Errorf("Fold of tree %d: %x, error %d, want %s", i, digest, e, c.digest)
		}
		s := newStream(t, c.tree)
		for _, b := range pattern(c.n) {
			write(t, s, []byte{b})
		}
		if digest := s.Sum(); hex.EncodeToString(digest) != c.digest {
			t.Errorf("Sum of tree %d: %x, want %s", i, digest, c.digest)
		}
	}
}
