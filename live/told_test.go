package live

import (
	"encoding/hex"
	"fmt"
	"testing"

	"quern/api"
)

func unhex(t testing.TB, text string) []byte {
	t.Helper()
	b, err := hex.DecodeString(text)
	if err != nil {
		t.Fatal(err)
	}
	return b
}

func TestExamples(t *testing.T) { // the chapter's
	abc := unhex(t, "508c5e8c327c14e2e1a72ba34eeb452f37458b209ed63a294d999b4c86675982")
	j := api.Job{Kind: api.Small, Out: 32, Data: []byte("abc"), Fails: 2}
	got, e := Jobs(poolOf(2, 1), 3, []api.Job{j})
	wantDones(t, "three tries", got, e, []api.Done{{Digest: abc, Tries: 3}})
	got, e = Jobs(poolOf(2, 1), 2, []api.Job{j})
	wantDones(t, "two tries", got, e, []api.Done{{Tries: 2, Why: api.ErrBroken}})
	j.Out = 33
	got, e = Jobs(poolOf(2, 1), 3, []api.Job{j})
	wantDones(t, "Out 33", got, e, []api.Done{{Tries: 1, Why: api.ErrDigest}})
	plan := api.Tree{Kind: api.Small, Digest: 32, Fanout: 2, Depth: 9, Leaf: 2, Inner: 8}
	digest, broken, e := Shaken(plan, poolOf(3, 2), 2, []int{0, 9, 1}, []byte("abcde"))
	wantBroken(t, "Shaken", digest, broken, e, []int{1})
}

// toldJobs are jobs and their digests, worked out by another program.
func toldJobs() []struct {
	job    api.Job
	digest string
} {
	return []struct {
		job    api.Job
		digest string
	}{
		{api.Job{Kind: api.Big, Out: 64, Key: rising(0), Data: pattern(0)}, "786a02f742015903c6c6fd852552d272912f4740e15847618a86e217f71f5419d25e1031afee585313896444934eb04b903a685b1448b755d56f701afe9be2ce"},
		{api.Job{Kind: api.Big, Out: 64, Key: rising(64), Data: pattern(1)}, "5be64c1cdda6d807d093b7ccecb6c751de388576c8e01ca65131c2d115c5fe6b7e4e49cac36509ac2859f55f7936e093353ec268479347bae9b12e03f3035add"},
		{api.Job{Kind: api.Big, Out: 32, Key: rising(5), Data: pattern(128)}, "8fef86d2450959d8fe91e1e9ecb1b77714390030a656620f774b30ed01b08683"},
		{api.Job{Kind: api.Big, Out: 1, Key: rising(1), Data: pattern(129)}, "a2"},
		{api.Job{Kind: api.Big, Out: 20, Key: rising(0), Data: pattern(1000)}, "b41824705d66201294d2a67ec8990aff3df70550"},
		{api.Job{Kind: api.Small, Out: 32, Key: rising(0), Data: pattern(0)}, "69217a3079908094e11121d042354a7c1f55b6482ca1a51e1b250dfd1ed0eef9"},
		{api.Job{Kind: api.Small, Out: 32, Key: rising(32), Data: pattern(64)}, "a0bcd2ca62c2da132630cec185226b4ebb85a3972b3fcc5cca5850c1918e2dda"},
		{api.Job{Kind: api.Small, Out: 16, Key: rising(1), Data: pattern(65)}, "9c651f1cc8d12bad8bcdfdd6e243059a"},
		{api.Job{Kind: api.Small, Out: 1, Key: rising(0), Data: pattern(300)}, "d7"},
		{api.Job{Kind: api.Small, Out: 31, Key: rising(7), Data: pattern(3)}, "a8a6ad05d9c93e7ca0600409b9028a031c76c283e39f5a5e39ee6e3270d9bb"},
	}
}

func TestToldJobs(t *testing.T) { // P16.1, P16.4
	var jobs []api.Job
	var right []api.Done
	for i, w := range toldJobs() {
		w.job.Fails = i % 4
		jobs = append(jobs, w.job)
		right = append(right, api.Done{Digest: unhex(t, w.digest), Tries: 1 + i%4})
	}
	got, e := Jobs(poolOf(3, 2), 4, jobs)
	wantDones(t, "four tries", got, e, right)
	for i, d := range right {
		at, e := First(poolOf(3, 2), jobs, d.Digest)
		wantFirst(t, "First", at, e, i)
	}
}

// toldTrees are trees over pattern(n), the output of their last leaf and their digest, worked out by another program.
func toldTrees() []struct {
	tree         api.Tree
	n            int
	leaf, digest string
} {
	return []struct {
		tree         api.Tree
		n            int
		leaf, digest string
	}{
		{api.Tree{Kind: api.Big, Digest: 32, Fanout: 2, Depth: 3, Leaf: 4, Inner: 16}, 9, "a611fb797b474caa377c721de5d706df", "a92011b2b4989cff820a5ac928dc187b5f3a4894173cebc52476cb616f77bc71"},
		{api.Tree{Kind: api.Big, Digest: 64, Fanout: 0, Depth: 2, Leaf: 10, Inner: 64}, 77, "ee35fb4b0e00280f50e48ab8e84444a2ac4e68a27cfb8618d1f854bf5da9a7c384dd0742ee36947ea4ad04db0da4542ab30cc9ee9c3a812f8af8b8afe0d76f3f", "58b5349bc6bee99875a6ec2e74fe3ef4b5a5449cd81ef3c4b4f63ea5e215b4f416766602b419e3f16dd3a58715d345af04984ed8236d8082d2ba079d7b9b24c3"},
		{api.Tree{Kind: api.Big, Digest: 63, Fanout: 3, Depth: 255, Leaf: 7, Inner: 5, Salt: rising(16), Personal: pattern(16)}, 100, "38193dc786", "81ed20761f9134dd0186116b97a02a5916e4ad718172dfc557ee8fe6b62b6109665a17da94435bf224075dd544a2ee9a0db1117cec38cff78a2b97723f25a2"},
		{api.Tree{Kind: api.Small, Digest: 32, Fanout: 2, Depth: 9, Leaf: 2, Inner: 8}, 5, "b77deb2f0df141c8", "4617430d2c96342b2a4b78c5c456f80c5082bcd0c64c4881378998ea3b89d444"},
		{api.Tree{Kind: api.Small, Digest: 20, Fanout: 255, Depth: 2, Leaf: 8, Inner: 20}, 0, "3210c0c9bfbf2354a6c96a882ac9d7af43755a4a", "bc19ab522808cc7b02687b9fc2a27c5ef9329877"},
		{api.Tree{Kind: api.Small, Digest: 32, Fanout: 4, Depth: 4, Leaf: 1, Inner: 32, Salt: rising(8)}, 90, "ecf420e65ca3b4bb9e129e7d7cb807752cfb75b0e2a5f347aa197aa7f0989b13", "9c951e0069897f1e67bafcd90e6ad4971e3b7eedba70c6ac992ef99e3239012f"},
	}
}

func TestToldTrees(t *testing.T) { // P16.2, P16.3
	for i, w := range toldTrees() {
		what := fmt.Sprint("tree ", i)
		data, right := pattern(w.n), unhex(t, w.digest)
		leaves, e := Leaves(w.tree, poolOf(3, 2), data)
		sure(t, "Leaves", leaves, e)
		wantBytes(t, "the last leaf, "+what, leaves[len(leaves)-1], e, unhex(t, w.leaf))
		digest, e := Hash(w.tree, poolOf(3, 2), data)
		wantBytes(t, "Hash, "+what, digest, e, right)
		digest, broken, e := Shaken(w.tree, poolOf(3, 2), 2, []int{1, 0, 1}, data)
		wantShaken(t, "Shaken, "+what, digest, broken, e, right)
		list, e := Many(w.tree, poolOf(3, 2), [][]byte{data, data})
		wantLists(t, "Many, "+what, list, e, [][]byte{right, right})
	}
}
