package long

import "quern/word"

// steps are the places that Perm's steps work on: the columns of four rows of four words, and then their slants.
var steps = [8][4]uint8{
	{0, 4, 8, 12}, {1, 5, 9, 13}, {2, 6, 10, 14}, {3, 7, 11, 15},
	{0, 5, 10, 15}, {1, 6, 11, 12}, {2, 7, 8, 13}, {3, 4, 9, 14},
}

// Blend tells four words behind one step.
func Blend(a, b, c, d uint64) (uint64, uint64, uint64, uint64) {
	a = joined(a, b)
	d = word.Turn64(d^a, 32)
	c = joined(c, d)
	b = word.Turn64(b^c, 24)
	a = joined(a, b)
	d = word.Turn64(d^a, 16)
	c = joined(c, d)
	b = word.Turn64(b^c, 63)
	return a, b, c, d
}

// joined tells the sum of two words and of twice the product of their low halves.
func joined(a, b uint64) uint64 {
	return a + b + 2*low(a)*low(b)
}

func low(w uint64) uint64 {
	return uint64(uint32(w))
}

// Perm tells sixteen words behind the eight steps of a row.
func Perm(v [16]uint64) [16]uint64 {
	for _, p := range steps {
		v[p[0]], v[p[1]], v[p[2]], v[p[3]] = Blend(v[p[0]], v[p[1]], v[p[2]], v[p[3]])
	}
	return v
}
