package path

import (
	"encoding/hex"
	"testing"

	"quern/api"
)

// toldPaths are paths over pattern(n): the digests as they are packed, and the root, worked out by another program.
func toldPaths() []struct {
	tree          api.Tree
	n, leaf       int
	digests, root string
} {
	return []struct {
		tree          api.Tree
		n, leaf       int
		digests, root string
	}{
		{api.Tree{Kind: api.Big, Digest: 32, Fanout: 2, Depth: 255, Leaf: 4, Inner: 8}, 9, 0, "6bde2e3b631214f96cf3930113629745", "ee4128084c5c7c22d916b354c3d56f25c551c3c2a3f44370ab75a43e15db47d4"},
		{api.Tree{Kind: api.Big, Digest: 32, Fanout: 2, Depth: 255, Leaf: 4, Inner: 8}, 9, 2, "e4a389d19895b4c9", "ee4128084c5c7c22d916b354c3d56f25c551c3c2a3f44370ab75a43e15db47d4"},
		{api.Tree{Kind: api.Small, Digest: 32, Fanout: 2, Depth: 255, Leaf: 4, Inner: 8}, 9, 0, "82f44570fd9cb1c2e53144f71fd13cc4", "70dd088aea4bd34a9f703514727ca4631e41ef32297a8cb74b5f3da7507adbc5"},
		{api.Tree{Kind: api.Small, Digest: 32, Fanout: 2, Depth: 255, Leaf: 4, Inner: 8}, 9, 1, "00eed6a02adf5f56e53144f71fd13cc4", "70dd088aea4bd34a9f703514727ca4631e41ef32297a8cb74b5f3da7507adbc5"},
		{api.Tree{Kind: api.Big, Digest: 64, Fanout: 3, Depth: 255, Leaf: 5, Inner: 7, Key: rising(64), Salt: rising(16), Personal: pattern(17)[1:]}, 94, 8, "c05377944890a8917e51edf1b039d41a84d9aafd3c95e8dfa8d941776ef52e17b479f38c54f85941b25c", "1ee934c68a74877d5ba5f214fbec6d796bf4ec72dce03c6a1cd2f1cb95592b05a85e92deba74154b6b6264add6897a04f6474afa3e7b93c8457acccea0f8375d"},
		{api.Tree{Kind: api.Small, Digest: 32, Fanout: 3, Depth: 255, Leaf: 5, Inner: 7, Key: rising(32), Salt: rising(8), Personal: pattern(9)[1:]}, 94, 8, "cd52139ef16a1072414cebdaf2cc945c97b02f9936bd1df3d2d1b5850cbb5cd8cede9dc2f13aeab549c1", "201361d001441ebf915605e43bd7a6fcaada1fd6855ea46f7c8a7c8a95dd7952"},
		{api.Tree{Kind: api.Big, Digest: 20, Fanout: 0, Depth: 2, Leaf: 3, Inner: 4, Key: rising(1)}, 20, 3, "b8d977783b059f13cfd246a76c19bfff931955508c1d1ff2", "5e2c569b08d71be9796678873aa5098107ed6d66"},
		{api.Tree{Kind: api.Small, Digest: 31, Fanout: 0, Depth: 255, Leaf: 3, Inner: 4, Salt: rising(8), Personal: pattern(9)[1:]}, 20, 6, "55c0bc7533cb1a4f23839c04a2e0cce68eb3bb7242491d99", "080e01eb99f2e77f5428e27e2b0b57bc73a66bdecf6b19f0d692eb021ec3e5"},
		{api.Tree{Kind: api.Big, Digest: 1, Fanout: 2, Depth: 3, Leaf: 4, Inner: 64}, 33, 8, "b1f59979d63245661862dbb82999b230c2db91651ab17b82404d63c4553c8119175bd184cdd74e6866ed5ae391fdc6df100a5e2fa357ea07c5ed7680273e75b8c3f564158611945678c431b9d5de3c955b3905baffde6de1828671a6290d21b69b3cf203c54d3786c7dccf3719fe1196631ed4c91747fb3e4ad826dc32f998fbf9db9c7df0125678852385b63795dc4a2154a6bfa684d6ed8702bac020ea9526ae04d04ae8839cd701b843e88fa9c7307364c3d7a235fae583d3b579181c848504b53f31ffad3e28beeaf38b4c2d868f265dd985d1085b76d58acbfe36d9caad8ba611c8dd7525856e723ea5261dde25aa977e237837342e883566f573b70699", "b0"},
		{api.Tree{Kind: api.Small, Digest: 1, Fanout: 2, Depth: 3, Leaf: 4, Inner: 32, Key: rising(5)}, 33, 0, "9952702488f62865909139f4dc45c4e51705eb14b5584b5119ef319d2cd335b8896a704bfda2b7e097c8973b79894426245b737f9160189694787dabf11029c255fcb4877fb52cabcba927233d681093286f543f029762b0bd3628dcc8c55896b874fb038152ea749b3f5bb6a4db7156ac7cd8df78557402b29f04f72997200cf3657b8f377bf501a296136243be9a1bfe8a434be56a5302e8aae5312d2c4886", "d0"},
		{api.Tree{Kind: api.Big, Digest: 48, Fanout: 255, Depth: 255, Leaf: 1, Inner: 1}, 257, 254, "0a99d86e81657835ca0539f77a277c4b48cb9250cabdf95d24fb4bda715271d2f43e33d3bad8c503de77bcd238ddcf61ddb75ca850618985d68907729f705792acce1b9cfc735ed221d77a9f829a70fb27a046952b274ede03c9d502ba0bbe69a96d9f1567dd6902cf5643db9c6aa324ab457cda1c530ee264bd63a4ca3ab4afde114bcaafe0d57dddec36c0880ce6641c5dff6a9e4e0a711c7f4667249aed5c7946a3d64b0bfdbde8418dbd613ef427347b5fd27f06493610e81945bf51d693480e55f9801e3fff5754f2cabc105814bfbac91e1d1f91144821db4ebc025466800ab8c9f5586fd5c7cb4fc218a3ff7f65416fe2da6a294bd578f5b428485a", "cf07c63614a04a2f18646647da4f5ee1bc193f9d1e3c64020d2bf59aab35480d7c3cee059167b900786637f7787ae8bf"},
		{api.Tree{Kind: api.Small, Digest: 17, Fanout: 255, Depth: 2, Leaf: 1, Inner: 1, Key: rising(2), Salt: rising(8), Personal: pattern(9)[1:]}, 40, 39, "6ecc524d3576c72786f0ec96241ce1e96aff4d13794afbb074acaffa6486810e9b05ab6fb004ef", "129392d988183849a44f56900ad4a01c3a"},
		{api.Tree{Kind: api.Big, Digest: 64, Fanout: 2, Depth: 2, Leaf: 4096, Inner: 64, Salt: rising(16), Personal: pattern(17)[1:]}, 0, 0, "", "99f1a6834217a6e23e0473912666cc189efe977aaa842dc1009ee615234238f8a272df13fe8c12296849bfff20d4ac32b7f6653e266ff51029c6a65028e2b788"},
		{api.Tree{Kind: api.Small, Digest: 32, Fanout: 2, Depth: 2, Leaf: 4294967295, Inner: 32, Key: rising(7)}, 300, 0, "", "5cf75ee894d42b4d3dec42f3bf5f647c6a17a09ce6c08ddc769d36dcfc170c24"},
	}
}

// toldFar are the roots of made-up paths over pattern(size), in trees of so many bytes, likewise.
func toldFar() []struct {
	tree        api.Tree
	total, leaf uint64
	size        int
	digests     int
	root        string
} {
	return []struct {
		tree        api.Tree
		total, leaf uint64
		size        int
		digests     int
		root        string
	}{
		{api.Tree{Kind: api.Big, Digest: 64, Fanout: 2, Depth: 255, Leaf: 1, Inner: 32, Key: rising(9), Salt: rising(16), Personal: pattern(17)[1:]}, 18446744073709551615, 9223372036854775813, 1, 64, "f133e2d349134c7c98212ab17384c96ae0d2c054fe9f92c4e31479da2c3a82ef0a2f865bb8191715034701261304f68c70beea20621a1019f7a8afd0e6ba808c"},
		{api.Tree{Kind: api.Big, Digest: 32, Fanout: 2, Depth: 255, Leaf: 1, Inner: 64}, 18446744073709551615, 18446744073709551614, 1, 63, "8a0c0b81ad0102f65ca05980a07e47a9a405ae1f895488e4d952bf551163f483"},
		{api.Tree{Kind: api.Big, Digest: 64, Fanout: 3, Depth: 255, Leaf: 7, Inner: 1}, 18446744073709551612, 81985529216486895, 7, 77, "6cbe7fb7fe04e7f31324afb6ec38cf5669c9d3b70b0b63edfca0b735c6e7a20a334e2d85ac564e11814f2c22bc5e10ff7e2fb5d3c811c258737829bfa26b7698"},
		{api.Tree{Kind: api.Small, Digest: 32, Fanout: 2, Depth: 255, Leaf: 1, Inner: 32, Key: rising(9), Salt: rising(8), Personal: pattern(9)[1:]}, 281474976710656, 281474976710655, 1, 48, "0184928a9841815ab2a432beb0bb6f5d75d0bd1ddb90cb1b48ded88f5e126e45"},
		{api.Tree{Kind: api.Small, Digest: 32, Fanout: 2, Depth: 255, Leaf: 65536, Inner: 16}, 18446744073709551615, 281474976710655, 65535, 48, "1604f7301d07903424b55016535aa1eb463fed21e3b8783fb2f6be45bdb9d8f7"},
		{api.Tree{Kind: api.Small, Digest: 16, Fanout: 255, Depth: 255, Leaf: 3, Inner: 8, Salt: rising(8), Personal: pattern(9)[1:]}, 844424930131966, 140737488355339, 3, 1525, "6ad3de47fbdff9034673bca7277950bc"},
		{api.Tree{Kind: api.Small, Digest: 32, Fanout: 3, Depth: 255, Leaf: 1, Inner: 32}, 281474976710655, 280223976814164, 1, 56, "7beadd515227312ebc48b7c608e573a32a3a0b58d702d946db2d842bc64dc87d"},
	}
}

func TestToldPaths(t *testing.T) { // PA1 to PA4
	for i, c := range toldPaths() {
		data := pattern(c.n)
		from := c.leaf * int(c.tree.Leaf)
		piece := data[from:min(c.n, from+int(c.tree.Leaf))]
		root, err := hex.DecodeString(c.root)
		if err != nil {
			t.Fatal(err)
		}
		p, e := Prove(c.tree, data, uint64(c.leaf))
		if hex.EncodeToString(flat(p)) != c.digests || e != api.OK {
			t.Errorf("Prove of path %d: %x, error %d, want %s", i, flat(p), e, c.digests)
		}
		got, e := Root(c.tree, p, piece)
		want(t, "Root", got, e, root)
		wantErrno(t, "Check", Check(c.tree, p, piece, root), api.OK)
		packed, e := Pack(c.tree, p)
		if e != api.OK || hex.EncodeToString(packed) != hex.EncodeToString(head(uint64(c.n), uint64(c.leaf)))+c.digests {
			t.Errorf("Pack of path %d: %x, error %d", i, packed, e)
		}
		back, e := Unpack(c.tree, packed)
		wantPath(t, "Unpack", back, e, p)
	}
}

func TestToldFar(t *testing.T) { // PA1, PA2
	for i, c := range toldFar() {
		p, n := madeUp(c.tree, c.total, c.leaf)
		if n != c.digests {
			t.Errorf("path %d has %d digests, want %d", i, n, c.digests)
		}
		size, e := Size(c.tree, c.total, c.leaf)
		wantNumber(t, "Size", size, e, uint64(c.digests))
		got, e := Root(c.tree, p, pattern(c.size))
		if hex.EncodeToString(got) != c.root || e != api.OK {
			t.Errorf("Root of path %d: %x, error %d, want %s", i, got, e, c.root)
		}
	}
}
