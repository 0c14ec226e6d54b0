package clash

import (
	"strconv"

	"quern/api"
	"quern/shape"
	"quern/tree"
)

// mostFrom is the greatest number that a search may begin with.
const mostFrom = 1 << 40

// Message tells the message with a number: its decimal digits.
func Message(i int) []byte {
	return []byte(strconv.Itoa(i))
}

// Search tells the first two messages, among most of them, that have one digest, and how many were hashed.
func Search(t api.Tree, from, most int) ([]byte, []byte, int, api.Errno) {
	if e := shape.Valid(t); e != api.OK {
		return nil, nil, 0, e
	}
	if outside(from, mostFrom) || outside(most, api.MaxSearch) {
		return nil, nil, 0, api.ErrArg
	}
	seen := map[string]int{} // numbers of messages, by their digests
	for i := range most {
		number := from + i
		// Each tree that may be takes messages as short as these.
		digest, _ := tree.Hash(t, Message(number))
		if earlier, ok := seen[string(digest)]; ok {
			return Message(earlier), Message(number), i + 1, api.OK
		}
		seen[string(digest)] = number
	}
	return nil, nil, most, api.ErrNone
}

// outside tells whether n is not from 0 to most.
func outside(n, most int) bool {
	return n < 0 || n > most
}
