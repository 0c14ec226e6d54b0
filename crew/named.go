package crew

import (
	"quern/api"
	"quern/lane"
	"quern/mac"
	"quern/param"
	"quern/xof"
)

// Ways of hashing that the names stand for.
const (
	plain  = iota
	lanes  // dealt out over lanes
	stream // of any length
)

// variant is a hash that has a name.
type variant struct {
	name string
	kind api.Kind
	way  int
	most int // bytes that come out
}

// In the order in which they are told. A stream of Small has no length of 65535: that stands for one that is not told ahead.
var variants = [6]variant{
	{"blake2b", api.Big, plain, 64},
	{"blake2s", api.Small, plain, 32},
	{"blake2bp", api.Big, lanes, 64},
	{"blake2sp", api.Small, lanes, 32},
	{"blake2xb", api.Big, stream, api.MaxTake},
	{"blake2xs", api.Small, stream, 65534},
}

// Names tells the names of all hashes.
func Names() []string {
	names := make([]string, 0, len(variants))
	for _, v := range variants {
		names = append(names, v.name)
	}
	return names
}

// Named tells size bytes of data's hash, by the hash's name, with a key or without.
func Named(name string, size int, key, data []byte) ([]byte, api.Errno) {
	for _, v := range variants {
		if v.name != name {
			continue
		}
		if e := v.takes(size, len(key)); e != api.OK {
			return nil, e
		}
		return v.hash(size, key, data)
	}
	return nil, api.ErrVariant
}

// takes tells why a hash does not tell so many bytes with a key of so many.
func (v variant) takes(size, key int) api.Errno {
	if size < 1 || size > v.most {
		return api.ErrArg
	}
	if most, _ := param.Most(v.kind); key > most {
		return api.ErrKey
	}
	return api.OK
}

func (v variant) hash(size int, key, data []byte) ([]byte, api.Errno) {
	switch v.way {
	case lanes:
		return lane.Digest(v.kind, size, key, nil, nil, data)
	case stream:
		return xof.Take(v.kind, size, key, data, 0, size)
	}
	return mac.Make(v.kind, size, key, nil, nil, data)
}
