package xof

import (
	"quern/api"
	"quern/node"
	"quern/param"
)

// unknownPieces is how many pieces a stream has whose length is not told ahead: as many as an offset of the extended form can tell apart.
const unknownPieces = 1 << 32

// plan is what is told of a stream ahead of its message.
type plan struct {
	kind           api.Kind
	size           int    // bytes of the root, and of a whole piece
	code           uint32 // the length, as the parameters tell it
	total          uint64 // bytes that come out in all
	salt, personal []byte
}

// planOf tells the plan of a stream whose key has so many bytes, or New's error.
func planOf(k api.Kind, length, key int, salt, personal []byte) (plan, api.Errno) {
	size, e := param.Most(k)
	if e != api.OK {
		return plan{}, e
	}
	code, ok := codeOf(k, length)
	if !ok {
		return plan{}, api.ErrArg
	}
	p := plan{kind: k, size: size, code: code, total: uint64(code), salt: salt, personal: personal}
	if length == api.Unknown {
		p.total = unknownPieces * uint64(size)
	}
	if e := param.Check(k, p.rootParams(key)); e != api.OK {
		return plan{}, e
	}
	return p, api.OK
}

// codeOf tells the code of a length, and whether that may be.
func codeOf(k api.Kind, length int) (uint32, bool) {
	unknown := uint32(1<<32 - 1)
	if k == api.Small {
		unknown = 1<<16 - 1
	}
	if length == api.Unknown {
		return unknown, true
	}
	// As 64 bits, so that no length loses its upper ones.
	if length < 1 || uint64(length) >= uint64(unknown) {
		return 0, false
	}
	return uint32(length), true
}

// rootParams tells the parameters of the hash over the message, with a key of so many bytes.
func (p plan) rootParams(key int) api.Params {
	return api.Params{Digest: p.size, Key: key, Fanout: 1, Depth: 1, Xof: p.code, Salt: p.salt, Personal: p.personal}
}

// pieces tells how many there are.
func (p plan) pieces() uint64 {
	size := uint64(p.size)
	return (p.total + size - 1) / size
}

// piece tells piece i, of those that there are; only the last one may be short of a whole one.
func (p plan) piece(root []byte, i uint64) []byte {
	size := uint64(p.size)
	digest := int(min(size, p.total-i*size))
	b, _ := node.Hash(p.kind, api.Params{
		Digest:   digest,
		Leaf:     uint32(size),
		Offset:   i,
		Xof:      p.code,
		Inner:    p.size,
		Salt:     p.salt,
		Personal: p.personal,
	}, nil, false, digest, root)
	return b
}
