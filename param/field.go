package param

import (
	"math"

	"quern/api"
)

// Salt and Personal stand behind the nine numbers, in blocks and in lines.
const (
	fieldSalt     = api.FieldInner + 1
	fieldPersonal = api.FieldInner + 2
)

// row is all that the block, the line and the faults must know of a field.
type row struct {
	field int
	name  string    // in a line
	fault api.Errno // what is told of a value that can't be
	big   span
	small span
}

// rows stand in the order of the fields' numbers: that of a field is at its number less 1.
func rows() [fieldPersonal]row {
	return [fieldPersonal]row{
		{api.FieldDigest, "digest", api.ErrDigest, span{0, 1}, span{0, 1}},
		{api.FieldKey, "key", api.ErrKey, span{1, 1}, span{1, 1}},
		{api.FieldFanout, "fanout", api.ErrFanout, span{2, 1}, span{2, 1}},
		{api.FieldDepth, "depth", api.ErrDepth, span{3, 1}, span{3, 1}},
		{api.FieldLeaf, "leaf", api.ErrArg, span{4, 4}, span{4, 4}},
		{api.FieldOffset, "offset", api.ErrOffset, span{8, 8}, span{8, 6}},
		{api.FieldXof, "xof", api.ErrXof, span{12, 4}, span{12, 2}},
		{api.FieldNode, "node", api.ErrRow, span{16, 1}, span{14, 1}},
		{api.FieldInner, "inner", api.ErrInner, span{17, 1}, span{15, 1}},
		{fieldSalt, "salt", api.ErrSalt, span{32, 16}, span{16, 8}},
		{fieldPersonal, "personal", api.ErrPersonal, span{48, 16}, span{24, 8}},
	}
}

// span is where something stands in a block.
type span struct {
	at, size int
}

// wholePlaceOf tells where a field stands when nobody asks for the form.
func wholePlaceOf(field int, k api.Kind) span {
	r := rows()[field-1]
	if k == api.Small {
		return r.small
	}
	return r.big
}

// placeOf tells where a field stands in one of the two forms: Offset and Xof share bytes, which one form gives to the one, and the other to the other.
func placeOf(field int, k api.Kind, extended bool) span {
	s := wholePlaceOf(field, k)
	if field == api.FieldOffset && extended {
		s.size = 4
	}
	if field == api.FieldXof && !extended {
		s.size = 0
	}
	return s
}

// holds tells whether n has room in s.
func (s span) holds(n uint64) bool {
	return n>>(8*s.size) == 0
}

// load tells the number that stands in s.
func (s span) load(block []byte) uint64 {
	var n uint64
	for i := range s.size {
		n |= uint64(block[s.at+i]) << (8 * i)
	}
	return n
}

// lay lays n down in s.
func (s span) lay(block []byte, n uint64) {
	for i := range s.size {
		block[s.at+i] = byte(n >> (8 * i))
	}
}

// of tells the bytes of block that s spans; they are still block's memory.
func (s span) of(block []byte) []byte {
	return block[s.at : s.at+s.size]
}

// number tells what p says in one of the nine fields.
func number(p api.Params, field int) uint64 {
	switch field {
	case api.FieldDigest:
		return uint64(p.Digest)
	case api.FieldKey:
		return uint64(p.Key)
	case api.FieldFanout:
		return uint64(p.Fanout)
	case api.FieldDepth:
		return uint64(p.Depth)
	case api.FieldLeaf:
		return uint64(p.Leaf)
	case api.FieldOffset:
		return p.Offset
	case api.FieldXof:
		return uint64(p.Xof)
	case api.FieldNode:
		return uint64(p.NodeDepth)
	}
	return uint64(p.Inner)
}

// setNumber has p say n in one of the nine fields; Leaf and Xof take n's lower four bytes.
func setNumber(p *api.Params, field int, n uint64) {
	// Nothing above may be in the fields that are an int, and every int holds this.
	small := int(min(n, math.MaxInt32))
	switch field {
	case api.FieldDigest:
		p.Digest = small
	case api.FieldKey:
		p.Key = small
	case api.FieldFanout:
		p.Fanout = small
	case api.FieldDepth:
		p.Depth = small
	case api.FieldLeaf:
		p.Leaf = uint32(n)
	case api.FieldOffset:
		p.Offset = n
	case api.FieldXof:
		p.Xof = uint32(n)
	case api.FieldNode:
		p.NodeDepth = small
	case api.FieldInner:
		p.Inner = small
	}
}
