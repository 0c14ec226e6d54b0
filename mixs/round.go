package mixs

import (
	"quern/api"
	"quern/mixb"
	"quern/word"
)

const rounds = 10

// places are those that a round's steps work on: the columns of four rows of four words, and then their slants.
func places() [8][4]uint8 {
	return [8][4]uint8{
		{0, 4, 8, 12}, {1, 5, 9, 13}, {2, 6, 10, 14}, {3, 7, 11, 15},
		{0, 5, 10, 15}, {1, 6, 11, 12}, {2, 7, 8, 13}, {3, 4, 9, 14},
	}
}

// G tells v behind one step on the places a, b, c and d.
func G(v [16]uint32, a, b, c, d int, x, y uint32) ([16]uint32, api.Errno) {
	if !fourPlaces(a, b, c, d) {
		return [16]uint32{}, api.ErrArg
	}
	v[a], v[b], v[c], v[d] = mix(v[a], v[b], v[c], v[d], x, y)
	return v, api.OK
}

// Ungroup tells the state of which G is v.
func Ungroup(v [16]uint32, a, b, c, d int, x, y uint32) ([16]uint32, api.Errno) {
	if !fourPlaces(a, b, c, d) {
		return [16]uint32{}, api.ErrArg
	}
	v[a], v[b], v[c], v[d] = unmix(v[a], v[b], v[c], v[d], x, y)
	return v, api.OK
}

func fourPlaces(a, b, c, d int) bool {
	unlike := a != b && a != c && a != d && b != c && b != d && c != d
	return unlike && isPlace(a) && isPlace(b) && isPlace(c) && isPlace(d)
}

func isPlace(i int) bool {
	return 0 <= i && i < 16
}

func mix(a, b, c, d, x, y uint32) (uint32, uint32, uint32, uint32) {
	a += b + x
	d = word.Turn32(d^a, 16)
	c += d
	b = word.Turn32(b^c, 12)
	a += b + y
	d = word.Turn32(d^a, 8)
	c += d
	b = word.Turn32(b^c, 7)
	return a, b, c, d
}

// unmix undoes the steps of mix, the last one first.
func unmix(a, b, c, d, x, y uint32) (uint32, uint32, uint32, uint32) {
	b = word.Turn32(b, -7) ^ c
	c -= d
	d = word.Turn32(d, -8) ^ a
	a -= b + y
	b = word.Turn32(b, -12) ^ c
	c -= d
	d = word.Turn32(d, -16) ^ a
	a -= b + x
	return a, b, c, d
}

// Round tells v behind the round r with the message's words m.
func Round(v, m [16]uint32, r int) ([16]uint32, api.Errno) {
	if !isRound(r) {
		return [16]uint32{}, api.ErrArg
	}
	return forth(v, m, r), api.OK
}

// Unround tells the state of which Round is v.
func Unround(v, m [16]uint32, r int) ([16]uint32, api.Errno) {
	if !isRound(r) {
		return [16]uint32{}, api.ErrArg
	}
	return back(v, m, r), api.OK
}

func isRound(r int) bool {
	return 0 <= r && r < rounds
}

func forth(v, m [16]uint32, r int) [16]uint32 {
	order := mixb.Sigma(r)
	for i, p := range places() {
		x, y := m[order[2*i]], m[order[2*i+1]]
		v[p[0]], v[p[1]], v[p[2]], v[p[3]] = mix(v[p[0]], v[p[1]], v[p[2]], v[p[3]], x, y)
	}
	return v
}

func back(v, m [16]uint32, r int) [16]uint32 {
	order, steps := mixb.Sigma(r), places()
	for i := len(steps) - 1; i >= 0; i-- {
		p := steps[i]
		x, y := m[order[2*i]], m[order[2*i+1]]
		v[p[0]], v[p[1]], v[p[2]], v[p[3]] = unmix(v[p[0]], v[p[1]], v[p[2]], v[p[3]], x, y)
	}
	return v
}
