package mac

import (
	"bytes"
	"slices"

	"quern/api"
	"quern/param"
)

// longestName is the most bytes of a name.
const longestName = 64

// Ring keeps keys by names.
type Ring struct {
	kind api.Kind
	size int               // bytes of a tag
	keys map[string][]byte // nil: no call made the ring
}

// NewRing tells an empty ring, whose tags have n bytes.
func NewRing(k api.Kind, n int) (*Ring, api.Errno) {
	// What may be the digest of no key may be a tag.
	if _, e := param.Plain(k, n, 0); e != api.OK {
		return nil, e
	}
	return &Ring{kind: k, size: n, keys: map[string][]byte{}}, api.OK
}

func (r *Ring) made() bool {
	return r != nil && r.keys != nil
}

// Add keeps a key by a name that isn't there.
func (r *Ring) Add(name string, key []byte) api.Errno {
	if !r.made() {
		return api.ErrZero
	}
	if !isName(name) {
		return api.ErrLabel
	}
	if most, _ := param.Most(r.kind); len(key) < 1 || len(key) > most {
		return api.ErrKey
	}
	if _, there := r.keys[name]; there {
		return api.ErrThere
	}
	if len(r.keys) >= api.MaxRing {
		return api.ErrLong
	}
	r.keys[name] = bytes.Clone(key)
	return api.OK
}

func isName(name string) bool {
	if len(name) < 1 || len(name) > longestName {
		return false
	}
	for i := range len(name) {
		if name[i] < 0x21 || name[i] > 0x7e {
			return false
		}
	}
	return true
}

// Drop lets the key of that name go.
func (r *Ring) Drop(name string) api.Errno {
	if !r.made() {
		return api.ErrZero
	}
	if _, there := r.keys[name]; !there {
		return api.ErrNone
	}
	delete(r.keys, name)
	return api.OK
}

// Names tells all names, rising.
func (r *Ring) Names() []string {
	if !r.made() {
		return nil
	}
	names := make([]string, 0, len(r.keys))
	for name := range r.keys {
		names = append(names, name)
	}
	slices.Sort(names)
	return names
}

// Tag tells the tag of data with the key of that name.
func (r *Ring) Tag(name string, data []byte) ([]byte, api.Errno) {
	if !r.made() {
		return nil, api.ErrZero
	}
	key, there := r.keys[name]
	if !there {
		return nil, api.ErrNone
	}
	return Make(r.kind, r.size, key, nil, nil, data)
}

// Who tells the first name, rising, whose tag of data it is, and whether there is one.
func (r *Ring) Who(tag, data []byte) (string, bool, api.Errno) {
	if !r.made() {
		return "", false, api.ErrZero
	}
	if len(tag) != r.size {
		return "", false, api.ErrTag
	}
	for _, name := range r.Names() {
		if right, _ := r.Tag(name, data); Equal(tag, right) {
			return name, true, api.OK
		}
	}
	return "", false, api.OK
}
