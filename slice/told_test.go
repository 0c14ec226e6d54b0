package slice_test

import (
	"bytes"
	"encoding/hex"
	"fmt"
	"testing"

	"quern/api"
	"quern/node"
	"quern/slice"
)

func unhex(t testing.TB, text string) []byte {
	t.Helper()
	b, err := hex.DecodeString(text)
	if err != nil {
		t.Fatal(err)
	}
	return b
}

// toldPart is the form of a part.
type toldPart struct {
	from, n uint64
	form    string
}

// toldForms are laid forms and parts of them, worked out by another program.
func toldForms() []struct {
	tree         api.Tree
	data         []byte
	digest, form string
	parts        []toldPart
} {
	return []struct {
		tree         api.Tree
		data         []byte
		digest, form string
		parts        []toldPart
	}{
		{api.Tree{Kind: api.Small, Digest: 32, Fanout: 2, Depth: 9, Leaf: 2, Inner: 8}, []byte("abcde"), "74a2ea197724cd76c88e6690af0e528bcc35ecb24c0d4031670800b051f2ac88", "050000000000000023870ae5d8ba4b831c0da66a03e141436114e072f26e1179ac25beb1e24ab4b6616263644637ecd25f7f403965", []toldPart{{4, 1, "050000000000000023870ae5d8ba4b831c0da66a03e141434637ecd25f7f403965"}, {9, 7, "050000000000000023870ae5d8ba4b831c0da66a03e141434637ecd25f7f403965"}, {0, 2, "050000000000000023870ae5d8ba4b831c0da66a03e141436114e072f26e1179ac25beb1e24ab4b66162"}, {1, 2, "050000000000000023870ae5d8ba4b831c0da66a03e141436114e072f26e1179ac25beb1e24ab4b661626364"}}},
		{api.Tree{Kind: api.Big, Digest: 64, Fanout: 2, Depth: 255, Leaf: 4, Inner: 3, Key: rising(64), Salt: rising(16), Personal: pattern(16)}, pattern(13), "111082e077de6845d2a05ed7008c1f67dabcb8dcef63f05b5fa50727b9001c13c151284d0445678d67b721176b563360cf065bbbcc45c98c86c875eb1b381db6", "0d000000000000006a490e5c4322f13ac16e99e400040a121c283646622626e421b3586c829ab4", []toldPart{{5, 4, "0d000000000000006a490e5c4322f13ac16e99e41c283646622626e421b3586c829a"}, {12, 1, "0d000000000000006a490e5c4322622626e421b3b4"}, {0, 0, "0d000000000000006a490e5c4322f13ac16e99e400040a12"}}},
		{api.Tree{Kind: api.Small, Digest: 20, Fanout: 3, Depth: 3, Leaf: 2, Inner: 5, Key: rising(3), Personal: pattern(8)}, pattern(21), "469b3f08349b32ce1e44a6fcc11ae9827575198f", "15000000000000006c0dbb703927c24f8e68158de449638dad54f91f560394187cf2b8b56fa2792981688600040a121c28e21b3cbea4f6b184eda3a717f95dd73646586c829ac3062d729d41f578a235b2d2005b7ab4d0ee1335594bfe0213d0fa3ec961137fa7d1", []toldPart{{7, 6, "15000000000000006c0dbb703927c24f8e68158de449638dad54f91fe21b3cbea4f6b184eda3a717f95dd73646586c829ac3062d729d41f578a235b2d2005b7ab4d0"}, {20, 1, "15000000000000006c0dbb703927c24f8e68158de449638dad54f91f4bfe0213d0fa3ec96113d1"}}},
		{api.Tree{Kind: api.Big, Digest: 1, Fanout: 0, Depth: 2, Leaf: 5, Inner: 2, Salt: rising(16)}, pattern(12), "19", "0c000000000000007528bcc9f3cb00040a121c283646586c829a", []toldPart{{4, 2, "0c000000000000007528bcc9f3cb00040a121c283646586c"}, {12, 0, "0c000000000000007528bcc9f3cb829a"}}},
		{api.Tree{Kind: api.Small, Digest: 32, Fanout: 2, Depth: 2, Leaf: 3, Inner: 4, Key: rising(32)}, pattern(10), "47f66fb1d3467b7de3a40851b7a726963f77d5afb5b1a5e01976e4e85c74336e", "0a0000000000000000a00f62675e238a057a4da1dc13761000040a121c283646586c", []toldPart{{3, 3, "0a0000000000000000a00f62675e238a057a4da1dc137610121c28"}, {8, 100, "0a0000000000000000a00f62675e238a057a4da1dc1376103646586c"}}},
		{api.Tree{Kind: api.Big, Digest: 33, Fanout: 255, Depth: 255, Leaf: 1, Inner: 1, Key: rising(1)}, pattern(9), "a66f303c6b91b444065399e778c38d16b6e3dfac462acd44985caf5c2c0ca612f6", "0900000000000000d27dbb6ffc8d27bef800040a121c28364658", []toldPart{{2, 3, "0900000000000000d27dbb6ffc8d27bef80a121c"}}},
		{api.Tree{Kind: api.Small, Digest: 1, Fanout: 2, Depth: 255, Leaf: 7, Inner: 32}, pattern(0), "31", "0000000000000000712817241bca76d9282b0806b68b3ee6e1ec7ee72dde28e82f4ea08aa3255c43", []toldPart{{0, 0, "0000000000000000712817241bca76d9282b0806b68b3ee6e1ec7ee72dde28e82f4ea08aa3255c43"}, {3, 3, "0000000000000000712817241bca76d9282b0806b68b3ee6e1ec7ee72dde28e82f4ea08aa3255c43"}}},
		{api.Tree{Kind: api.Big, Digest: 64, Fanout: 5, Depth: 7, Leaf: 100, Inner: 64, Key: rising(9)}, pattern(1), "53285e75d98e3c717198169bef11882361a4054014f14373c975e5318fee08fa3ecfcd1460762c0050bbf2f4fb2fd35a3b41af04d117194ad6d7a20a1c421aea", "01000000000000005bb1ffe66df85b59a9b0dd8e7a55c769f1fccbaed9b4e5d2780489080f298cb8fa0bfcf7db2c97436cb0182036372d8f6e9312840bd05f719e6f728c2a8fa9e800", []toldPart{{0, 1, "01000000000000005bb1ffe66df85b59a9b0dd8e7a55c769f1fccbaed9b4e5d2780489080f298cb8fa0bfcf7db2c97436cb0182036372d8f6e9312840bd05f719e6f728c2a8fa9e800"}}},
	}
}

func TestToldForms(t *testing.T) { // P18.1 to P18.5
	for _, w := range toldForms() {
		what := fmt.Sprintf("%s, %d bytes", named(w.tree), len(w.data))
		digest, form := unhex(t, w.digest), unhex(t, w.form)
		got, e := slice.Lay(w.tree, w.data)
		wantBytes(t, "Lay, "+what, got, e, form)
		n, e := slice.Length(w.tree, uint64(len(w.data)))
		if n != uint64(len(form)) || e != api.OK {
			t.Errorf("Length, %s: %d, error %d, want %d", what, n, e, len(form))
		}
		wantRead(t, what, w.tree, digest, form, w.data, 0, api.OK)
		for _, p := range w.parts {
			part := unhex(t, p.form)
			wantPart(t, what, w.tree, form, p.from, p.n, part, 0, api.OK)
			wantReadPart(t, what, w.tree, digest, part, p.from, p.n, there(w.data, p.from, p.n), uint64(len(w.data)), 0, api.OK)
		}
		r := readerOf(t, w.tree, digest)
		wantErrno(t, "Write, "+what, r.Write(form), api.OK)
		if got := r.Take(); !bytes.Equal(got, w.data) || !r.Done() {
			t.Errorf("a reader, %s: %x, done %v", what, got, r.Done())
		}
	}
}

// toldLong are laid forms of pattern(n): how long they are, and the digest of 64 bytes of Big of them, worked out likewise.
func toldLong() []struct {
	tree   api.Tree
	n      int
	digest string
	length int
	form   string
} {
	return []struct {
		tree   api.Tree
		n      int
		digest string
		length int
		form   string
	}{
		{api.Tree{Kind: api.Big, Digest: 64, Fanout: 2, Depth: 255, Leaf: 8, Inner: 16, Key: rising(5)}, 2000, "688d4ed0841f20801b24f8256a765a26d65c30836390efb43e210237469832a22eeeebda9b3f7516eda2f629c1a713c02cd50dbae4de469e794eaec4c4ce8717", 10008, "51c925d7cb1cda1b0676d215bed4eb8f6bf7fad419d3ed91e7e24d6515454abaa33566d49a317aaa9a142b6ad13b143e9f857c5063f789d55805c42b60bf63c3"},
		{api.Tree{Kind: api.Small, Digest: 32, Fanout: 255, Depth: 255, Leaf: 1, Inner: 4}, 700, "1ca43a3bf491807bde26db814c5dc11ca6abba306f6deafda7aac0605ee66c82", 3520, "35a73448bf61b5c23b55cb6c69d536f9b0381cbe5e31bac7521467871281cd2d8cbbbd6cf6ead0358dd0c5e1fcce93f53671766a3ecff20d3e536851f7464487"},
		{api.Tree{Kind: api.Small, Digest: 32, Fanout: 0, Depth: 3, Leaf: 16, Inner: 32, Key: rising(32), Salt: rising(8), Personal: pattern(8)}, 3000, "6a715ad8723dfeccb376b97d907bbe05c593226a4c92573d66d4c55a826cf483", 9024, "77737068666a5190da7b2796de287f661beec710c3d2bb7794c0ae9eb3e8da75e07764bab99aeeff7569f310407e7d40f787cce4d0eabf2001fe6cb5ee49f11f"},
		{api.Tree{Kind: api.Big, Digest: 31, Fanout: 3, Depth: 4, Leaf: 10, Inner: 64}, 1000, "4c7f80f97a305a02cdf247011ba203adebf8922e970b9b885027d872c97985", 10352, "c929ae880424cbf7fb3ea328408df20aecbb1c7e239d22538176bab3f9c49e4bd3f2159280df3dd7f99df2c6fab6357f81afa92142190c3d303a1a018969a402"},
	}
}

func TestToldLong(t *testing.T) { // P18.1, P18.2
	for _, w := range toldLong() {
		form, e := slice.Lay(w.tree, pattern(w.n))
		if len(form) != w.length || e != api.OK {
			t.Errorf("Lay, %s: %d bytes, error %d, want %d", named(w.tree), len(form), e, w.length)
		}
		hash, e := node.Hash(api.Big, api.Params{Digest: 64, Fanout: 1, Depth: 1}, nil, false, 64, form)
		wantBytes(t, "Lay's digest, "+named(w.tree), hash, e, unhex(t, w.form))
		wantRead(t, named(w.tree), w.tree, unhex(t, w.digest), form, pattern(w.n), 0, api.OK)
	}
}

// toldFar are parts of one byte of messages that nobody lays down whole, worked out likewise: the leaf in which it lies is the first bytes of pattern, and so is each piece above but for what its child on the way gives.
func toldFar() []struct {
	tree        api.Tree
	total, from uint64
	length      int
	digest      string
} {
	return []struct {
		tree        api.Tree
		total, from uint64
		length      int
		digest      string
	}{
		{api.Tree{Kind: api.Big, Digest: 64, Fanout: 2, Depth: 255, Leaf: 4, Inner: 8, Key: rising(3)}, 1099511627776, 549755813893, 620, "ca4febae2688145b16effbd47b0f2943a90e5c5ca30c2efc022e80fb3a7c8a905ddd9bdd22c0ed687b96c4c7112d8ebf03627c811224d573a8d091252c68cf46"},
		{api.Tree{Kind: api.Big, Digest: 32, Fanout: 2, Depth: 255, Leaf: 4, Inner: 1}, 1099511627776, 1099511627775, 88, "cd4180830abb664c6222fa73044e2041e24847fed510bce4b374bbe074693775"},
		{api.Tree{Kind: api.Small, Digest: 32, Fanout: 2, Depth: 255, Leaf: 1, Inner: 5, Salt: rising(8)}, 1099511627776, 4294967297, 409, "fb3e1bbacf8e72918ea680381750fc23d560afdcac0366455cd6fa3e8c8fc658"},
		{api.Tree{Kind: api.Small, Digest: 32, Fanout: 16, Depth: 255, Leaf: 7, Inner: 32}, 1099511627773, 1099511627772, 1806, "9b1b8b1c15f39cabc86e37d24c7a0d47d0266b7c26b3b2cdbbae9e70818b0f8e"},
		{api.Tree{Kind: api.Big, Digest: 16, Fanout: 255, Depth: 255, Leaf: 3, Inner: 2, Key: rising(64), Personal: pattern(16)}, 1099511627775, 0, 2225, "433727d136fb73606b396cbea8ffbd70"},
		{api.Tree{Kind: api.Small, Digest: 9, Fanout: 3, Depth: 20, Leaf: 200, Inner: 9}, 1000000000000, 999999999999, 640, "2bdfa4c21e0fe71835"},
	}
}

func TestToldFar(t *testing.T) { // P18.4, Limits
	for _, w := range toldFar() {
		what := fmt.Sprintf("%s, %d bytes", named(w.tree), w.total)
		form, _, _ := grow(t, w.tree, w.total, w.from, 1, func(row int, at, size uint64) []byte { return pattern(int(size)) })
		if len(form) != w.length {
			t.Errorf("%s: a part of %d bytes, want %d", what, len(form), w.length)
		}
		right := pattern(300)[w.from%uint64(w.tree.Leaf)]
		wantReadPart(t, what, w.tree, unhex(t, w.digest), form, w.from, 1, []byte{right}, w.total, 0, api.OK)
	}
}

// toldClashes are parts of other messages with the digest of pattern(13), worked out likewise: the data of the two calls, and their output.
func toldClashes() []struct {
	tree          api.Tree
	other         string
	from, n       uint64
	part          string
	first, second string
	output        string
} {
	return []struct {
		tree          api.Tree
		other         string
		from, n       uint64
		part          string
		first, second string
		output        string
	}{
		{api.Tree{Kind: api.Big, Digest: 1, Fanout: 2, Depth: 255, Leaf: 2, Inner: 1}, "00040a1231b93646586c829ab4", 3, 3, "0d00000000000000aa43cc01ec500a12c68931b9", "9943", "aa43", "1b"},
		{api.Tree{Kind: api.Big, Digest: 1, Fanout: 2, Depth: 255, Leaf: 2, Inner: 1}, "00040a121c2836465807", 8, 2, "0a000000000000009943a67e5807", "b3df", "a6", "43"},
		{api.Tree{Kind: api.Big, Digest: 1, Fanout: 2, Depth: 255, Leaf: 2, Inner: 1}, "00040a121c283646587ecb9ab4", 9, 2, "0d000000000000009943b3df936f587ecb9a", "0e54", "936f", "b3"},
		{api.Tree{Kind: api.Big, Digest: 1, Fanout: 2, Depth: 255, Leaf: 2, Inner: 1}, "00040af7261891", 2, 18446744073709551615, "07000000000000004794ec990af72028261891", "9943", "4794", "1b"},
		{api.Tree{Kind: api.Small, Digest: 1, Fanout: 2, Depth: 255, Leaf: 3, Inner: 1, Key: rising(4)}, "00040a591c2836465896829ab4", 3, 3, "0d0000000000000044a2d16b5e9d591c28", "afa2", "44a2", "d7"},
		{api.Tree{Kind: api.Small, Digest: 1, Fanout: 2, Depth: 255, Leaf: 3, Inner: 1, Key: rising(4)}, "00040a121c9b", 4, 2, "06000000000000005e5e121c9b", "afa2", "5e5e", "d7"},
		{api.Tree{Kind: api.Small, Digest: 1, Fanout: 2, Depth: 255, Leaf: 3, Inner: 1, Key: rising(4)}, "00040a121c2836e7586c82e1b4", 7, 4, "0d00000000000000afa26c7a27d136e7586c82e1", "78d3", "27d1", "7a"},
		{api.Tree{Kind: api.Small, Digest: 1, Fanout: 2, Depth: 255, Leaf: 3, Inner: 1, Key: rising(4)}, "00040a121c283646cbc37516", 8, 4, "0c000000000000006cd298c43646cbc37516", "afa2", "6cd2", "d7"},
		{api.Tree{Kind: api.Big, Digest: 1, Fanout: 0, Depth: 2, Leaf: 4, Inner: 1, Key: rising(5), Salt: rising(16), Personal: pattern(16)}, "02040a121c28e646586c829ab4", 0, 4, "0d000000000000009f94b07d02040a12", "ad85b07d", "9f94b07d", "69"},
		{api.Tree{Kind: api.Big, Digest: 1, Fanout: 0, Depth: 2, Leaf: 4, Inner: 1, Key: rising(5), Salt: rising(16), Personal: pattern(16)}, "00040a121c283646586c829a54ec", 12, 4, "0e00000000000000ad85b07d54ec", "b4", "54ec", "7d"},
		{api.Tree{Kind: api.Big, Digest: 1, Fanout: 0, Depth: 2, Leaf: 4, Inner: 1, Key: rising(5), Salt: rising(16), Personal: pattern(16)}, "00040a441c283646586c829ab4", 3, 2, "0d00000000000000ad85b07d00040a441c283646", "00040a12", "00040a44", "ad"},
		{api.Tree{Kind: api.Big, Digest: 1, Fanout: 0, Depth: 2, Leaf: 4, Inner: 1, Key: rising(5), Salt: rising(16), Personal: pattern(16)}, "000429", 2, 2, "030000000000000030000429", "ad85b07d", "30", "69"},
		{api.Tree{Kind: api.Small, Digest: 1, Fanout: 3, Depth: 3, Leaf: 2, Inner: 1}, "00040a121c28364649ec829ab4", 7, 2, "0d0000000000000098695f607af8364649ec", "6028f8", "607af8", "69"},
		{api.Tree{Kind: api.Small, Digest: 1, Fanout: 3, Depth: 3, Leaf: 2, Inner: 1}, "00040a121c2836a0793b50f659", 6, 18446744073709551615, "0d0000000000000098b4c2bd1dde36a0793b50f6fa59", "98695f", "98b4c2", "41"},
		{api.Tree{Kind: api.Small, Digest: 1, Fanout: 3, Depth: 3, Leaf: 2, Inner: 1}, "008d0a121c283646586c829ab4", 1, 2, "0d0000000000000098695f335022008d0a12", "0004", "008d", "33"},
		{api.Tree{Kind: api.Small, Digest: 1, Fanout: 3, Depth: 3, Leaf: 2, Inner: 1}, "00040a121c70adcf29", 4, 3, "0900000000000000f80d3350091c706f9cadcf", "98695f", "f80d", "41"},
		{api.Tree{Kind: api.Big, Digest: 1, Fanout: 2, Depth: 255, Leaf: 3, Inner: 1, Key: rising(2)}, "00040a5a1c2836465842829ab4", 3, 2, "0d000000000000007193cc2eca905a1c28", "b093", "7193", "9a"},
		{api.Tree{Kind: api.Big, Digest: 1, Fanout: 2, Depth: 255, Leaf: 3, Inner: 1, Key: rising(2)}, "00040a1213af", 4, 3, "0600000000000000ca471213af", "b093", "ca47", "9a"},
		{api.Tree{Kind: api.Big, Digest: 1, Fanout: 2, Depth: 255, Leaf: 3, Inner: 1, Key: rising(2)}, "00040a121c2836463e3a829ab4", 7, 3, "0d00000000000000b093cc7f32cc36463e3a829a", "79bc", "32cc", "7f"},
		{api.Tree{Kind: api.Big, Digest: 1, Fanout: 2, Depth: 255, Leaf: 3, Inner: 1, Key: rising(2)}, "00040a56cca924", 2, 3, "0700000000000000f5e4ca9d00040a56cca9", "b093", "f5e4", "9a"},
	}
}

func TestToldClashes(t *testing.T) { // P18.3, P18.6
	for i, w := range toldClashes() {
		what := fmt.Sprintf("told %d, %s", i, named(w.tree))
		form, e := slice.Lay(w.tree, unhex(t, w.other))
		wantErrno(t, "Lay, "+what, e, api.OK)
		wantPart(t, what, w.tree, form, w.from, w.n, unhex(t, w.part), 0, api.OK)
		first, second, e := slice.Clash(w.tree, pattern(13), unhex(t, w.part), w.from, w.n)
		if e != api.OK || !bytes.Equal(first.Data, unhex(t, w.first)) || !bytes.Equal(second.Data, unhex(t, w.second)) {
			t.Errorf("Clash, %s: %x, %x, error %d, want %s, %s", what, first.Data, second.Data, e, w.first, w.second)
		}
		for _, c := range []api.Call{first, second} {
			if out := output(t, c); !bytes.Equal(out, unhex(t, w.output)) {
				t.Errorf("Clash, %s: an output of %x, want %s", what, out, w.output)
			}
		}
	}
}
