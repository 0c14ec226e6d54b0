package crew

import (
	"encoding/hex"
	"fmt"
	"testing"

	"quern/api"
)

func unhex(t testing.TB, text string) []byte {
	t.Helper()
	b, err := hex.DecodeString(text)
	if err != nil {
		t.Fatal(err)
	}
	return b
}

func TestExamples(t *testing.T) { // the chapter's, and the document's second
	plan := bare(api.Big, 1, 4, 5)
	wantNoCrew(t, "Fanout 1", plan, poolOf(1, 1), api.ErrTree)
	plan.Fanout = 2
	wantNoCrew(t, "Workers 0", plan, poolOf(0, 1), api.ErrPool)
	c := crewOf(t, plan, poolOf(1, 1))
	wantErrno(t, "Close", c.Close(), api.OK)
	digest, e := c.Sum()
	wantNone(t, "Sum", digest, e, api.ErrShut)
	wantErrno(t, "Close", c.Close(), api.OK)
	digest, e = Named("blake2b", 65, nil, nil)
	wantNone(t, "blake2b, 65", digest, e, api.ErrArg)
	digest, e = Named("md5", 16, nil, nil)
	wantNone(t, "md5", digest, e, api.ErrVariant)
	digest, e = Named("blake2s", 32, nil, []byte("abc"))
	wantBytes(t, "blake2s", digest, e, unhex(t, "508c5e8c327c14e2e1a72ba34eeb452f37458b209ed63a294d999b4c86675982"))
}

// toldNamed are hashes by their names, of pattern(data) with the key rising(key), worked out by another program.
func toldNamed() []struct {
	name            string
	size, key, data int
	right           string
} {
	return []struct {
		name            string
		size, key, data int
		right           string
	}{
		{"blake2b", 64, 0, 0, "786a02f742015903c6c6fd852552d272912f4740e15847618a86e217f71f5419d25e1031afee585313896444934eb04b903a685b1448b755d56f701afe9be2ce"},
		{"blake2b", 1, 1, 3, "22"},
		{"blake2b", 64, 64, 128, "ecba42fef6fd08d561b558f6b642f2d81fa30300cedcf7b43216c92e81fdceee51983c94b4c219ed9e06a3c7c561298e05810f9e7ec681ebb2bf50b8b28a3c9d"},
		{"blake2b", 20, 0, 129, "ee2ccb0c94b8eebb43edd9bb84c33a28b709c1cf"},
		{"blake2b", 63, 7, 3000, "5c2660f311ff1d47a20843e875e614535d598b2e02eacad05a2b230d3612d65891eef08d7f6348be7da01a7206ca4b21b68ede155ba27ae1d01c58226ab2b8"},
		{"blake2s", 32, 0, 0, "69217a3079908094e11121d042354a7c1f55b6482ca1a51e1b250dfd1ed0eef9"},
		{"blake2s", 1, 1, 3, "24"},
		{"blake2s", 32, 32, 64, "a0bcd2ca62c2da132630cec185226b4ebb85a3972b3fcc5cca5850c1918e2dda"},
		{"blake2s", 20, 0, 65, "3a0c4ae13f54009988f2c8c2941c80e05282092c"},
		{"blake2s", 31, 7, 3000, "a0b19ec05268acb2085d7cda3bce69b5c70a0ebab4f2f611d711fdea13577e"},
		{"blake2bp", 64, 0, 0, "b5ef811a8038f70b628fa8b294daae7492b1ebe343a80eaabbf1f6ae664dd67b9d90b0120791eab81dc96985f28849f6a305186a85501b405114bfa678df9380"},
		{"blake2bp", 1, 1, 3, "75"},
		{"blake2bp", 64, 64, 128, "465709c1bb61fb2d7b47b959c44145c4421c55e388f005130ee5262facfb450be160083b2eb4940167d5bde1cc97e3c6bf133ab2aea717d84747abc423267780"},
		{"blake2bp", 20, 0, 129, "71b2de57e4de0bb909262fc377eb2e28183f9fce"},
		{"blake2bp", 63, 7, 3000, "fcf6353242d991b9943a217092744d76c54b172954d55429ae0dbf38bdf289490e4bccf1dd9738275418193a3e78467f1d1b051dd00d55f0e71f44033bc03d"},
		{"blake2sp", 32, 0, 0, "dd0e891776933f43c7d032b08a917e25741f8aa9a12c12e1cac8801500f2ca4f"},
		{"blake2sp", 1, 1, 3, "c6"},
		{"blake2sp", 32, 32, 64, "fdec2292761eabe6a0015d29587c907d1fcfff513f560ad724738cb0217a4973"},
		{"blake2sp", 20, 0, 65, "dbf9bd4cd12cecfb85cdbd85e13c98d94ff990d4"},
		{"blake2sp", 31, 7, 3000, "2339929bdefb880f5de80ff98bb6643e3946fa977e485812814980c2b42106"},
		{"blake2xb", 1, 0, 0, "34"},
		{"blake2xb", 64, 1, 3, "975937a34a327e16039a699e2409dc800c03009d3fc9a63ab6d4af8776da77e4cb743b99d1fe8fba8883434e73672e816701d9bd207de0fc1ffb8d36fd540e17"},
		{"blake2xb", 65, 64, 128, "8b33fef447cf9e1c968e38dfb4236abf93b5164719aa065d5f6b5cc5b32c3c754538c4a9dc9516fa07832ff322fe54816ce55f2d9c9ce508d61b92b0b1b2440527"},
		{"blake2xb", 100, 0, 129, "b12dcbdbf5e6affd19289b7f01cddac5cb086d80a400edfa31b4120fed98939d64dfc8c37b22a82a439cc3cf00022cb4190f77464dde7e2f125a6814fb11a2d70f4be2e5710a5108c06edee65ff75bdeb1b506162567b7933f5909e649ad3f5756bde993"},
		{"blake2xb", 33, 7, 1000, "abb95b21310a56f346e87a88b38bb842f791b321ff36c51665565ee87ffde7855a"},
		{"blake2xs", 1, 0, 0, "07"},
		{"blake2xs", 32, 1, 3, "72c5d15b1db4264750062657090fa9c563e8fc983aac1a00485e1362fe5a8219"},
		{"blake2xs", 33, 32, 64, "2b5eef28ada5b561831522c74fed311f1f09ec5f8ac3fb97b10eb06927751353f2"},
		{"blake2xs", 100, 0, 65, "8b0c1ed6880ca6abb93edcf867c2363c2ab124d09e9da0c3462cd75d393e50f04a37a8af849f781e2c322f8d57087807875ba014ba7321a9293c03b76da9407960e70f4845c019e72350d051be103ee5a725723e06090a3e85988c84ee1b5999956fbe60"},
		{"blake2xs", 33, 7, 1000, "b498571163727e619a4ccd60daa33cbace805663ba5bbe63f2cd86a58d26dfe37b"},
	}
}

func TestToldNamed(t *testing.T) { // CR5
	for _, w := range toldNamed() {
		got, e := Named(w.name, w.size, rising(w.key), pattern(w.data))
		wantBytes(t, fmt.Sprintf("%s, size %d, key %d, %d bytes", w.name, w.size, w.key, w.data), got, e, unhex(t, w.right))
	}
}

// toldTrees are digests of trees over pattern(n), worked out by another program.
func toldTrees() []struct {
	tree   api.Tree
	n      int
	digest string
} {
	return []struct {
		tree   api.Tree
		n      int
		digest string
	}{
		{api.Tree{Kind: api.Big, Digest: 64, Fanout: 3, Depth: 4, Leaf: 5, Inner: 64, Key: []byte("key")}, 43, "43f6c54c8f4cfd89cbe887339fcd24d895ac8b8c3ecc19db1dd5c5be56b6059cb84e14c39ff481ad2b9f26932ad5721f49bca3788f4f9e296de51300527eedb1"},
		{api.Tree{Kind: api.Big, Digest: 32, Fanout: 2, Depth: 3, Leaf: 4, Inner: 16}, 9, "a92011b2b4989cff820a5ac928dc187b5f3a4894173cebc52476cb616f77bc71"},
		{api.Tree{Kind: api.Big, Digest: 64, Fanout: 0, Depth: 2, Leaf: 10, Inner: 64, Key: rising(64)}, 77, "e3a4667b70e5cc7dd4720bbc659e086046eb7d114711f630a1d2bbb7cde703b461cccbc3625bd80874f8378129c9be9ecaa0b9b1f1e43d992d3dbc4be30ad7eb"},
		{api.Tree{Kind: api.Big, Digest: 63, Fanout: 3, Depth: 255, Leaf: 7, Inner: 5, Key: rising(5), Salt: rising(16), Personal: pattern(16)}, 100, "5dd8c0bc310d0a01d5ec0497b2f81cfca2b36d9792558054b1723dfaf56df3a4dd79a43683fca8b588c5e167325bb0e299df125b34e755e28e7a1485e82b0b"},
		{api.Tree{Kind: api.Big, Digest: 1, Fanout: 255, Depth: 255, Leaf: 1, Inner: 1}, 300, "c9"},
		{api.Tree{Kind: api.Small, Digest: 32, Fanout: 2, Depth: 9, Leaf: 2, Inner: 8}, 5, "4617430d2c96342b2a4b78c5c456f80c5082bcd0c64c4881378998ea3b89d444"},
		{api.Tree{Kind: api.Small, Digest: 20, Fanout: 255, Depth: 2, Leaf: 8, Inner: 20, Key: rising(1)}, 0, "b726cbe2660658b1a0c5552360eaf1cbb86d0dbe"},
		{api.Tree{Kind: api.Small, Digest: 32, Fanout: 4, Depth: 4, Leaf: 1, Inner: 32, Key: rising(32), Salt: rising(8)}, 90, "a8bd0b0a5246ab4fc352ba18b3d8513c65dd82c1bedc28f96f330cca036bc787"},
		{api.Tree{Kind: api.Small, Digest: 31, Fanout: 2, Depth: 255, Leaf: 100, Inner: 32, Personal: pattern(8)}, 1000, "7403363730e14add804c761f897ff95e2dd02a707659857e14991b0907c8f1"},
	}
}

func TestToldTrees(t *testing.T) { // CR2, CR4, G1
	for i, w := range toldTrees() {
		what := fmt.Sprint("tree ", i)
		data, right := pattern(w.n), unhex(t, w.digest)
		for _, p := range pools() {
			c := crewOf(t, w.tree, p)
			c.Write(data[:w.n/3])
			c.Sum()
			c.Write(data[w.n/3:])
			digest, e := c.Sum()
			wantBytes(t, "Sum, "+what, digest, e, right)
			digest, e = Hash(w.tree, p, data)
			wantBytes(t, "Hash, "+what, digest, e, right)
			list, e := Many(w.tree, p, [][]byte{data, data})
			wantLists(t, "Many, "+what, list, e, [][]byte{right, right})
		}
	}
}
