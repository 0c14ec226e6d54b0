package mixb

import (
	"quern/api"
	"quern/word"
)

const rounds = 12

// places are those that a round's steps work on: the columns of four rows of four words, and then their slants.
var places = [8][4]uint8{
	{0, 4, 8, 12}, {1, 5, 9, 13}, {2, 6, 10, 14}, {3, 7, 11, 15},
	{0, 5, 10, 15}, {1, 6, 11, 12}, {2, 7, 8, 13}, {3, 4, 9, 14},
}

// G tells v behind one step on the places a, b, c and d.
func G(v [16]uint64, a, b, c, d int, x, y uint64) ([16]uint64, api.Errno) {
	if !fourPlaces(a, b, c, d) {
		return [16]uint64{}, api.ErrArg
	}
	v[a], v[b], v[c], v[d] = mix(v[a], v[b], v[c], v[d], x, y)
	return v, api.OK
}

func fourPlaces(a, b, c, d int) bool {
	unlike := a != b && a != c && a != d && b != c && b != d && c != d
	return unlike && isPlace(a) && isPlace(b) && isPlace(c) && isPlace(d)
}

func isPlace(i int) bool {
	return 0 <= i && i < 16
}

func mix(a, b, c, d, x, y uint64) (uint64, uint64, uint64, uint64) {
	a += b + x
	d = word.Turn64(d^a, 32)
	c += d
	b = word.Turn64(b^c, 24)
	a += b + y
	d = word.Turn64(d^a, 16)
	c += d
	b = word.Turn64(b^c, 63)
	return a, b, c, d
}

// unmix undoes the steps of mix, the last one first.
func unmix(a, b, c, d, x, y uint64) (uint64, uint64, uint64, uint64) {
	b = word.Turn64(b, -63) ^ c
	c -= d
	d = word.Turn64(d, -16) ^ a
	a -= b + y
	b = word.Turn64(b, -24) ^ c
	c -= d
	d = word.Turn64(d, -32) ^ a
	a -= b + x
	return a, b, c, d
}

// Round tells v behind a round with the message's words m.
func Round(v, m [16]uint64, round int) ([16]uint64, api.Errno) {
	if !isRound(round) {
		return [16]uint64{}, api.ErrArg
	}
	return forth(v, m, round), api.OK
}

// Back tells the state of which Round is v.
func Back(v, m [16]uint64, round int) ([16]uint64, api.Errno) {
	if !isRound(round) {
		return [16]uint64{}, api.ErrArg
	}
	return back(v, m, round), api.OK
}

func isRound(round int) bool {
	return 0 <= round && round < rounds
}

func forth(v, m [16]uint64, round int) [16]uint64 {
	order := orders[rest(round)]
	for i, p := range places {
		x, y := m[order[2*i]], m[order[2*i+1]]
		v[p[0]], v[p[1]], v[p[2]], v[p[3]] = mix(v[p[0]], v[p[1]], v[p[2]], v[p[3]], x, y)
	}
	return v
}

func back(v, m [16]uint64, round int) [16]uint64 {
	order := orders[rest(round)]
	for i := len(places) - 1; i >= 0; i-- {
		p := places[i]
		x, y := m[order[2*i]], m[order[2*i+1]]
		v[p[0]], v[p[1]], v[p[2]], v[p[3]] = unmix(v[p[0]], v[p[1]], v[p[2]], v[p[3]], x, y)
	}
	return v
}

// Init tells the sixteen words that the rounds begin with.
func Init(h [8]uint64, count api.Count, last, node bool) [16]uint64 {
	var v [16]uint64
	for i := range h {
		v[i], v[i+8] = h[i], iv[i]
	}
	v[12] ^= count.Lo
	v[13] ^= count.Hi
	if last {
		v[14] = ^v[14]
	}
	if node {
		v[15] = ^v[15]
	}
	return v
}

// F tells the state h behind a block of the message.
func F(h [8]uint64, m [16]uint64, count api.Count, last, node bool) [8]uint64 {
	v := Init(h, count, last, node)
	for round := range rounds {
		v = forth(v, m, round)
	}
	for i := range h {
		h[i] ^= v[i] ^ v[i+8]
	}
	return h
}
