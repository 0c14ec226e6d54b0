package mixb

import (
	"encoding/hex"
	"math"
	"math/rand"
	"testing"

	"quern/api"
)

type state = [16]uint64

func someWords(r *rand.Rand) state {
	var v state
	for i := range v {
		v[i] = r.Uint64()
	}
	return v
}

// edgeStates are such as carry, wrap round, or have no bit at all.
func edgeStates(r *rand.Rand) []state {
	list := []state{{}, {0: 1}, {15: 1 << 63}}
	var full, high state
	for i := range full {
		full[i], high[i] = math.MaxUint64, 1<<63
	}
	list = append(list, full, high)
	for range 20 {
		list = append(list, someWords(r))
	}
	return list
}

func turned(w uint64, n int) uint64 {
	for range n {
		w = w>>1 | w<<63
	}
	return w
}

// stepped is G, a step a line as MB4 tells it.
func stepped(v state, a, b, c, d int, x, y uint64) state {
	v[a] = v[a] + v[b] + x
	v[d] = turned(v[d]^v[a], 32)
	v[c] = v[c] + v[d]
	v[b] = turned(v[b]^v[c], 24)
	v[a] = v[a] + v[b] + y
	v[d] = turned(v[d]^v[a], 16)
	v[c] = v[c] + v[d]
	v[b] = turned(v[b]^v[c], 63)
	return v
}

// rounded is Round, a step a line as MB5 tells it.
func rounded(v, m state, round int) state {
	s := wantOrders[round%10]
	v = stepped(v, 0, 4, 8, 12, m[s[0]], m[s[1]])
	v = stepped(v, 1, 5, 9, 13, m[s[2]], m[s[3]])
	v = stepped(v, 2, 6, 10, 14, m[s[4]], m[s[5]])
	v = stepped(v, 3, 7, 11, 15, m[s[6]], m[s[7]])
	v = stepped(v, 0, 5, 10, 15, m[s[8]], m[s[9]])
	v = stepped(v, 1, 6, 11, 12, m[s[10]], m[s[11]])
	v = stepped(v, 2, 7, 8, 13, m[s[12]], m[s[13]])
	v = stepped(v, 3, 4, 9, 14, m[s[14]], m[s[15]])
	return v
}

// The chapter's example tells v[0] as 0x0000010000000001; by the steps of MB4 it is 0x101, and that is what BLAKE2b needs.
func TestGOfNoughts(t *testing.T) { // MB4
	want := state{0: 0x101, 4: 0x0202000200020200, 8: 0x0101000100010000, 12: 0x0101000000010000}
	if v, e := G(state{}, 0, 4, 8, 12, 1, 0); v != want || e != api.OK {
		t.Errorf("G: %x %d", v, e)
	}
}

func allPlaces(do func(a, b, c, d int)) {
	for i := range 16 * 16 * 16 * 16 {
		do(i>>12, i>>8&15, i>>4&15, i&15)
	}
}

func TestGAtAllPlaces(t *testing.T) { // MB4
	v := someWords(rand.New(rand.NewSource(34)))
	const x, y = 0x9e3779b97f4a7c15, 0xf39cc0605cedc834
	taken := 0
	allPlaces(func(a, b, c, d int) {
		got, e := G(v, a, b, c, d, x, y)
		if a == b || a == c || a == d || b == c || b == d || c == d {
			if got != (state{}) || e != api.ErrArg {
				t.Errorf("G at %d %d %d %d: %x %d", a, b, c, d, got, e)
			}
			return
		}
		taken++
		if got != stepped(v, a, b, c, d, x, y) || e != api.OK {
			t.Errorf("G at %d %d %d %d: %x %d", a, b, c, d, got, e)
		}
	})
	if taken != 16*15*14*13 {
		t.Errorf("G was asked at %d places", taken)
	}
}

func TestGOfManyStates(t *testing.T) { // MB4, P6
	r := rand.New(rand.NewSource(35))
	for _, v := range edgeStates(r) {
		for _, x := range []uint64{0, 1, 1 << 63, math.MaxUint64, r.Uint64()} {
			for _, y := range []uint64{0, 1, 1 << 63, math.MaxUint64, r.Uint64()} {
				if got, e := G(v, 3, 4, 9, 14, x, y); got != stepped(v, 3, 4, 9, 14, x, y) || e != api.OK {
					t.Errorf("G(%x, %x, %x) = %x, %d", v, x, y, got, e)
				}
			}
		}
	}
}

func TestGRefusesNoPlaces(t *testing.T) { // MB4, P2, P6
	v := someWords(rand.New(rand.NewSource(36)))
	for _, wrong := range []int{-1, -4, -16, 16, 17, 20, 256, 1 << 32, -1 << 32, math.MinInt, math.MaxInt} {
		for at := range 4 {
			p := [4]int{0, 4, 8, 12}
			p[at] = wrong
			if got, e := G(v, p[0], p[1], p[2], p[3], 1, 2); got != (state{}) || e != api.ErrArg {
				t.Errorf("G at %v: %x %d", p, got, e)
			}
		}
		if got, e := G(v, wrong, wrong, wrong, wrong, 1, 2); got != (state{}) || e != api.ErrArg {
			t.Errorf("G at %d four times: %x %d", wrong, got, e)
		}
	}
}

func TestRound(t *testing.T) { // MB5
	r := rand.New(rand.NewSource(37))
	for round := range 12 {
		for _, v := range edgeStates(r) {
			for _, m := range edgeStates(r) {
				if got, e := Round(v, m, round); got != rounded(v, m, round) || e != api.OK {
					t.Fatalf("Round(%x, %x, %d) = %x, %d", v, m, round, got, e)
				}
			}
		}
	}
}

// TestRoundIsEightSteps holds Round against G and Sigma themselves.
func TestRoundIsEightSteps(t *testing.T) { // MB5
	r := rand.New(rand.NewSource(38))
	places := [8][4]int{{0, 4, 8, 12}, {1, 5, 9, 13}, {2, 6, 10, 14}, {3, 7, 11, 15}, {0, 5, 10, 15}, {1, 6, 11, 12}, {2, 7, 8, 13}, {3, 4, 9, 14}}
	for round := range 12 {
		v, m := someWords(r), someWords(r)
		want, s := v, Sigma(round)
		for i, p := range places {
			want, _ = G(want, p[0], p[1], p[2], p[3], m[s[2*i]], m[s[2*i+1]])
		}
		if got, e := Round(v, m, round); got != want || e != api.OK {
			t.Errorf("round %d: %x %d", round, got, e)
		}
	}
}

// abc is what the chapter's example hashes: the state, and the message's words.
func abc(t *testing.T) (h [8]uint64, m state) {
	t.Helper()
	h, e := Start(append([]byte{0x40, 0, 1, 1}, make([]byte, 60)...))
	if e != api.OK {
		t.Fatalf("Start: %d", e)
	}
	m, e = Words(append([]byte("abc"), make([]byte, 125)...))
	if e != api.OK {
		t.Fatalf("Words: %d", e)
	}
	return h, m
}

// TestRoundsOfABC: the words at 0, 5, 10, 15 behind each round of BLAKE2b-512 of "abc", worked out apart from this program.
func TestRoundsOfABC(t *testing.T) { // MB5
	want := [12][4]uint64{
		{0x86b7c1568029bb79, 0xa447c850aa694a7e, 0xfa87b01273fa6dbe, 0x2318a24e2140fc64},
		{0x53281e83806010f2, 0xca5425aec65a10a8, 0xe9e4ad0d0e1a0d48, 0x572d17effdd37358},
		{0x60ed96aa7ad41725, 0xb1dd230754d7bdee, 0xf1de8696bec11bf1, 0x716343f52fdd265e},
		{0xbb2a77d3a8382351, 0x24192e49ebf54ea0, 0x5b44273e66b19d27, 0x3e7b5f234cd1f804},
		{0xc79c15b3d423b099, 0x6fe66467af88c0a9, 0x79e02eef20cdb1ae, 0x1205ea4a7859807d},
		{0xe58f97d6385baee4, 0x9e472af0be3db3f6, 0xa2c3abbd37510ee2, 0xdb2161604cbc9828},
		{0x6e2d286eeadedc81, 0xb63c479a6a769f02, 0x5777272ae1e930c0, 0xe03c6cc89c26bf92},
		{0xffc83ece76024d01, 0xe1179523a2541963, 0x30bbcc0285a22f65, 0xb0b9f0d443d1a889},
		{0x753a70a1e8faeadd, 0x63c5b9b80d294cb9, 0x5da7f7638cec5669, 0xfd3f572687fea4f1},
		{0xe630c747ccd59c4f, 0x5f311b88904056ec, 0x900aee2f233b08e5, 0x01369ec18746e775},
		{0xe801f73b9768c760, 0x3cc88735d1475e4b, 0x733d1a17248f39db, 0x02231e1a917fe0bd},
		{0x12ef8a641ec4f6d6, 0xaa5ac1888e10467e, 0xf8960d6c2faf5f5e, 0xe813a23c60af3b82},
	}
	h, m := abc(t)
	v := Init(h, api.Count{Lo: 3}, true, false)
	for round, words := range want {
		v, _ = Round(v, m, round)
		if got := [4]uint64{v[0], v[5], v[10], v[15]}; got != words {
			t.Errorf("behind round %d: %x", round, got)
		}
	}
}

func TestRoundsRefused(t *testing.T) { // MB5, P2, P6
	v := someWords(rand.New(rand.NewSource(39)))
	for _, round := range []int{-1, -10, -12, 12, 13, 20, 256, 1 << 32, math.MinInt, math.MaxInt} {
		if got, e := Round(v, v, round); got != (state{}) || e != api.ErrArg {
			t.Errorf("Round %d: %x %d", round, got, e)
		}
		if got, e := Back(v, v, round); got != (state{}) || e != api.ErrArg {
			t.Errorf("Back %d: %x %d", round, got, e)
		}
	}
}

func TestBackOfWhatWasRounded(t *testing.T) { // MB5
	r := rand.New(rand.NewSource(40))
	for round := range 12 {
		for _, v := range edgeStates(r) {
			for _, m := range edgeStates(r) {
				if got, e := Back(rounded(v, m, round), m, round); got != v || e != api.OK {
					t.Fatalf("Back to %x by %x in round %d: %x, %d", v, m, round, got, e)
				}
			}
		}
	}
}

func TestThereAndBack(t *testing.T) { // MB7
	r := rand.New(rand.NewSource(41))
	for round := range 12 {
		for _, v := range edgeStates(r) {
			for _, m := range edgeStates(r) {
				there, _ := Round(v, m, round)
				if got, e := Back(there, m, round); got != v || e != api.OK {
					t.Fatalf("Back of Round of %x by %x in round %d: %x, %d", v, m, round, got, e)
				}
				back, _ := Back(v, m, round)
				if got, e := Round(back, m, round); got != v || e != api.OK {
					t.Fatalf("Round of Back of %x by %x in round %d: %x, %d", v, m, round, got, e)
				}
			}
		}
	}
}

func TestInit(t *testing.T) { // MB6
	r := rand.New(rand.NewSource(42))
	counts := []api.Count{{}, {Lo: 3}, {Hi: 5}, {Lo: 128, Hi: 1 << 63}, {Lo: math.MaxUint64, Hi: math.MaxUint64}, {Lo: 0x0123456789abcdef, Hi: 0xfedcba9876543210}}
	for _, count := range counts {
		for flags := range 4 {
			last, node := flags&1 != 0, flags&2 != 0
			h := someState(r)
			var want state
			copy(want[:8], h[:])
			copy(want[8:], wantIV[:])
			want[12] ^= count.Lo
			want[13] ^= count.Hi
			if last {
				want[14] ^= math.MaxUint64
			}
			if node {
				want[15] ^= math.MaxUint64
			}
			if v := Init(h, count, last, node); v != want {
				t.Errorf("Init(%x, %v, %v, %v) = %x", h, count, last, node, v)
			}
		}
	}
}

func TestInitOfNoughts(t *testing.T) { // MB6
	v := Init([8]uint64{}, api.Count{Lo: 1, Hi: 2}, true, true)
	want := state{
		8: 0x6a09e667f3bcc908, 9: 0xbb67ae8584caa73b, 10: 0x3c6ef372fe94f82b, 11: 0xa54ff53a5f1d36f1,
		12: 0x510e527fade682d0, 13: 0x9b05688c2b3e6c1d, 14: 0xe07c265404be4294, 15: 0xa41f32e6ec81de86,
	}
	if v != want {
		t.Errorf("Init: %x", v)
	}
}

func TestFIsTwelveRounds(t *testing.T) { // MB6
	r := rand.New(rand.NewSource(43))
	for i := range 200 {
		h, m := someState(r), someWords(r)
		count := api.Count{Lo: r.Uint64(), Hi: r.Uint64()}
		last, node := i&1 != 0, i&2 != 0
		v := Init(h, count, last, node)
		for round := range 12 {
			v = rounded(v, m, round)
		}
		var want [8]uint64
		for j := range want {
			want[j] = h[j] ^ v[j] ^ v[j+8]
		}
		if got := F(h, m, count, last, node); got != want {
			t.Fatalf("F(%x, %x, %v, %v, %v) = %x", h, m, count, last, node, got)
		}
	}
}

// TestFWithEachFlag: answers that were worked out apart from this program, with both words of the count.
func TestFWithEachFlag(t *testing.T) { // MB6
	var b [128]byte
	for i := range b {
		b[i] = byte(7*i + 1)
	}
	m, _ := Words(b[:])
	cases := []struct {
		last, node bool
		want       string
	}{
		{false, false, "34583a303f5279c563b37543ad802f4213f77fadcda66b1f20d7f07a51186f8cc5a134f7147f2cdb73d08c439445fafee3b1324fbbe6626ea01256d7ba975727"},
		{false, true, "842aa208ea9f6d120a4bc410f3ed09c4121b027e7dc52bd8c11d056efbd7f4c4a287b140cbdbdc840b5b036f992fb54639d3af2f0c0c801ac76492d959c6cd12"},
		{true, false, "bf078ce84667bba91b594e569ca784c039c402dbe5b5b65f6e9b7f25d00373ddf53a7ca019ba85220360dd455a0fbb9b0c45ad8f4d57554c2a482cad38810e9c"},
		{true, true, "865f7ac8e55dbcaaf21a28cf51cdfcbf07680e1a43249bd59fe53c59db509f952b3c892c81b55b4160c312d9892e01cf1616b2e373082f6c24fd6db30da90115"},
	}
	for _, c := range cases {
		h := F(IV(), m, api.Count{Lo: 0x0123456789abcdef, Hi: 0xfedcba9876543210}, c.last, c.node)
		if got := hex.EncodeToString(Bytes(h)); got != c.want {
			t.Errorf("F with last %v, node %v: %s", c.last, c.node, got)
		}
	}
}

func TestFOfABC(t *testing.T) { // MB6: the chapter's example
	h, m := abc(t)
	const want = "ba80a53f981c4d0d6a2797b69f12f6e94c212f14685ac4b74b12bb6fdbffa2d17d87c5392aab792dc252d5de4533cc9518d38aa8dbf1925ab92386edd4009923"
	if got := hex.EncodeToString(Bytes(F(h, m, api.Count{Lo: 3}, true, false))); got != want {
		t.Errorf("F of abc: %s", got)
	}
}

// digest puts a message through block by block, as BLAKE2b does.
func digest(t *testing.T, block, data []byte, node bool) string {
	t.Helper()
	h, e := Start(block)
	if e != api.OK {
		t.Fatalf("Start: %d", e)
	}
	for done := 0; ; {
		size := min(128, len(data)-done)
		m, e := Words(append(append([]byte{}, data[done:done+size]...), make([]byte, 128-size)...))
		if e != api.OK {
			t.Fatalf("Words: %d", e)
		}
		done += size
		last := done == len(data)
		h = F(h, m, api.Count{Lo: uint64(done)}, last, node && last)
		if last {
			return hex.EncodeToString(Bytes(h))
		}
	}
}

func pattern(n int) []byte {
	b := make([]byte, n)
	for i := range b {
		b[i] = byte((i*i + 3*i) % 251)
	}
	return b
}

// TestManyBlocks: digests of BLAKE2b-512 that another program told.
func TestManyBlocks(t *testing.T) { // MB6
	block := append([]byte{0x40, 0, 1, 1}, make([]byte, 60)...)
	for n, want := range map[int]string{
		0:    "786a02f742015903c6c6fd852552d272912f4740e15847618a86e217f71f5419d25e1031afee585313896444934eb04b903a685b1448b755d56f701afe9be2ce",
		1:    "2fa3f686df876995167e7c2e5d74c4c7b6e48f8068fe0e44208344d480f7904c36963e44115fe3eb2a3ac8694c28bcb4f5a0f3276f2e79487d8219057a506e4b",
		127:  "1f057c51a6e4ad58cd62a0d03cb88685ff0d4cf97e0536312382a0048015eb5c5247469175ec4b5eeaf9b3b5c06b9183385dc3575974a931c7dbcb3da5649386",
		128:  "5bb9a169a3573e7f6d06c63de2e197256ac266d480d37753a0b73eb3dfd26be9f5db68218b644d7955c16be9ea2725151060b7aac3c18e3945ef2556f215c7ca",
		129:  "135a8ecc92e10aa830906665fc27f7b12cee0b51b46f1c1700f88b0677a0c746a38857ef458262fb69991dc4b469a728b5612755deb1759d859b1ff91bad7104",
		1000: "551fa7500b6d1c8dc185e4580642e77a2f3f045c54fa95b83500b2a4c6bfcfa874b926d91c218e31ad4de339e1c4aed370fb20e526232ec92f0176e75dffddf8",
	} {
		if got := digest(t, block, pattern(n), false); got != want {
			t.Errorf("%d bytes: %s", n, got)
		}
	}
}

// TestNodesOfATree: the same with all of a block's fields, and with the last-node flag.
func TestNodesOfATree(t *testing.T) { // MB3, MB6
	block := make([]byte, 64)
	copy(block, []byte{64, 0, 2, 3, 5, 0, 0, 0, 6, 0, 0, 0, 0, 0, 0, 0, 1, 7})
	copy(block[32:], "salt")
	copy(block[48:], "personal")
	cases := []struct {
		n    int
		node bool
		want string
	}{
		{0, false, "b481f5355b4af21cceaae3a8a0a51d1599f45c8fbc6b4c19351d424618a95e591082d3344d2554bb6e4874c07c69eeefda1fa85d653e6888551a18e984c5ca4a"},
		{0, true, "65f79c80d74de73b02713cd4c63cdffd1118d5ec0c8bd1a39e8076e1f4cef33d16e47a7343387564d3f2b8b4e50d4a53e712694d6f12d23e77cfa187316bdcf2"},
		{300, false, "61747d68f452ad10b804323c0cfbbb4bf9d04b4811a672399c7575b3bcf13b2119906b10704033a78accfa30b8a5e99b49ee59dbd106968514e5d52ee1be0633"},
		{300, true, "a76732d5d82f9a17b503d7a5425a32cc867b719608376afb93cfdec200501ed30223f614c138df63ac525afb711a3bdf64e99309931f550154cde594e0ed0d7e"},
	}
	for _, c := range cases {
		if got := digest(t, block, pattern(c.n), c.node); got != c.want {
			t.Errorf("%d bytes, last node %v: %s", c.n, c.node, got)
		}
	}
}

// TestAnswersHangOnArguments asks twice, with other calls between.
func TestAnswersHangOnArguments(t *testing.T) { // P5
	r := rand.New(rand.NewSource(44))
	for round := range 12 {
		h, v, m := someState(r), someWords(r), someWords(r)
		count := api.Count{Lo: r.Uint64(), Hi: r.Uint64()}
		f := F(h, m, count, true, true)
		there, _ := Round(v, m, round)
		back, _ := Back(v, m, round)
		F(someState(r), someWords(r), api.Count{}, false, false)
		Round(v, m, 12)
		G(v, 0, 0, 0, 0, 1, 1)
		thereAgain, _ := Round(v, m, round)
		backAgain, _ := Back(v, m, round)
		if F(h, m, count, true, true) != f || thereAgain != there || backAgain != back {
			t.Errorf("round %d: another answer to the same arguments", round)
		}
	}
}
