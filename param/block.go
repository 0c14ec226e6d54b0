package param

import (
	"bytes"

	"quern/api"
	"quern/word"
)

// Encode tells the block.
func Encode(k api.Kind, p api.Params) ([]byte, api.Errno) {
	if e := Check(k, p); e != api.OK {
		return nil, e
	}
	size, _ := Size(k)
	block := make([]byte, size)
	for field := api.FieldDigest; field <= api.FieldInner; field++ {
		placeOf(field, k, p.Xof != 0).lay(block, number(p, field))
	}
	copy(wholePlaceOf(fieldSalt, k).of(block), p.Salt)
	copy(wholePlaceOf(fieldPersonal, k).of(block), p.Personal)
	return block, api.OK
}

// Decode tells the parameters of a block, in one of the two forms.
func Decode(k api.Kind, block []byte, extended bool) (api.Params, api.Errno) {
	if e := checkLength(k, block); e != api.OK {
		return api.Params{}, e
	}
	m, _ := measuresOf(k)
	if len(withoutEnd(m.idle.of(block))) != 0 {
		return api.Params{}, api.ErrForm
	}
	var p api.Params
	for field := api.FieldDigest; field <= api.FieldInner; field++ {
		setNumber(&p, field, placeOf(field, k, extended).load(block))
	}
	// With Xof 0 it would be of the plain form, with Offset's upper bytes lost.
	if extended && p.Xof == 0 {
		return api.Params{}, api.ErrXof
	}
	p.Salt = wholePlaceOf(fieldSalt, k).of(block)
	p.Personal = wholePlaceOf(fieldPersonal, k).of(block)
	return Normal(k, p)
}

// Twin tells the parameters of the other form with the same block, if there are any.
func Twin(k api.Kind, p api.Params) (api.Params, bool, api.Errno) {
	block, e := Encode(k, p)
	if e != api.OK {
		return api.Params{}, false, e
	}
	q, e := Decode(k, block, p.Xof == 0)
	return q, e == api.OK, api.OK
}

// Words tells the block's eight words.
func Words(k api.Kind, p api.Params) ([]uint64, api.Errno) {
	block, e := Encode(k, p)
	if e != api.OK {
		return nil, e
	}
	m, _ := measuresOf(k)
	words := make([]uint64, m.block/m.word)
	for i := range words {
		words[i] = loadWord(k, block, i*m.word)
	}
	return words, api.OK
}

func loadWord(k api.Kind, block []byte, at int) uint64 {
	if k == api.Small {
		w, _ := word.Load32(block, at)
		return uint64(w)
	}
	w, _ := word.Load64(block, at)
	return w
}

// Get tells the number in a field of a block.
func Get(k api.Kind, block []byte, field int) (uint64, api.Errno) {
	if e := checkField(k, block, field); e != api.OK {
		return 0, e
	}
	return wholePlaceOf(field, k).load(block), api.OK
}

// Put tells a block with another number in a field.
func Put(k api.Kind, block []byte, field int, value uint64) ([]byte, api.Errno) {
	if e := checkField(k, block, field); e != api.OK {
		return nil, e
	}
	place := wholePlaceOf(field, k)
	if !place.holds(value) {
		return nil, api.ErrArg
	}
	changed := bytes.Clone(block)
	place.lay(changed, value)
	return changed, api.OK
}

func checkField(k api.Kind, block []byte, field int) api.Errno {
	if e := checkLength(k, block); e != api.OK {
		return e
	}
	if outside(field, api.FieldDigest, api.FieldInner) {
		return api.ErrArg
	}
	return api.OK
}

func checkLength(k api.Kind, block []byte) api.Errno {
	size, e := Size(k)
	switch {
	case e != api.OK:
		return e
	case len(block) < size:
		return api.ErrShort
	case len(block) > size:
		return api.ErrLong
	}
	return api.OK
}
