package argon

import "quern/api"

// field is one of a setting.
type field int

const (
	kindField field = iota
	lanesField
	memoryField
	passesField
	tagField
)

// leastPerLane is how many blocks are to be asked for, for each lane: no segment has fewer than two columns then.
const leastPerLane = 8

// bound tells between which numbers a field lies; its least one may hang on the lanes.
type bound struct {
	of      field
	least   int
	perLane int
	most    int
}

// bounds has the lanes ahead of what hangs on them, so that no product is greater than an int.
var bounds = [...]bound{
	{of: kindField, least: api.ArgonD, most: api.ArgonID},
	{of: lanesField, least: 1, most: api.MaxLanes},
	{of: memoryField, perLane: leastPerLane, most: api.MaxMemory},
	{of: passesField, least: 1, most: api.MaxPasses},
	{of: tagField, least: api.MinTag, most: api.MaxTag},
}

// fault tells why a setting may not be.
func fault(a api.Argon) api.Errno {
	for _, b := range bounds {
		n := get(a, b.of)
		if n < b.least || n > b.most || n < b.perLane*a.Lanes {
			return api.ErrArgon
		}
	}
	return api.OK
}

func get(a api.Argon, f field) int {
	switch f {
	case kindField:
		return a.Kind
	case lanesField:
		return a.Lanes
	case memoryField:
		return a.Memory
	case passesField:
		return a.Passes
	default:
		return a.Tag
	}
}

// inputs are what a tag is made of, beside the setting.
type inputs struct {
	word, salt, secret, extra []byte
}

// fault tells why a setting and inputs may not be.
func (in inputs) fault(a api.Argon) api.Errno {
	if e := fault(a); e != api.OK {
		return e
	}
	if len(in.word) > api.MaxWord {
		return api.ErrLong
	}
	if e := saltFault(in.salt); e != api.OK {
		return e
	}
	if len(in.secret) > api.MaxSecret || len(in.extra) > api.MaxExtra {
		return api.ErrLong
	}
	return api.OK
}

func saltFault(salt []byte) api.Errno {
	if len(salt) < api.MinSalt || len(salt) > api.MaxSalt {
		return api.ErrGrain
	}
	return api.OK
}

// Check tells whether a setting and a salt may be.
func Check(a api.Argon, salt []byte) api.Errno {
	if e := fault(a); e != api.OK {
		return e
	}
	return saltFault(salt)
}

// Columns tells how many blocks a lane has.
func Columns(a api.Argon) (int, api.Errno) {
	if e := fault(a); e != api.OK {
		return 0, e
	}
	return gridOf(a).columns, api.OK
}
