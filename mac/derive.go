package mac

import (
	"bytes"

	"quern/api"
	"quern/param"
	"quern/word"
)

// Subkey tells a key of n bytes that is made of master, a number and a context.
func Subkey(k api.Kind, n int, master []byte, id uint64, context string) ([]byte, api.Errno) {
	if e := subkeyFault(k, n, master, context); e != api.OK {
		return nil, e
	}
	// A salt and a personal that are short count with noughts behind them.
	return Make(k, n, master, word.Store64(id), []byte(context), nil)
}

// Derive tells the key to which ids lead, one behind the other, from master on.
func Derive(k api.Kind, master []byte, context string, ids ...uint64) ([]byte, api.Errno) {
	most, e := param.Most(k)
	if e != api.OK {
		return nil, e
	}
	if e := subkeyFault(k, most, master, context); e != api.OK {
		return nil, e
	}
	key := bytes.Clone(master)
	for _, id := range ids {
		// What master may be, a key of the most bytes may be, too: no step is refused.
		key, _ = Subkey(k, most, key, id, context)
	}
	return key, api.OK
}

// subkeyFault tells why no key can be made of master, whatever the number is.
func subkeyFault(k api.Kind, n int, master []byte, context string) api.Errno {
	if _, e := param.Most(k); e != api.OK {
		return e
	}
	if len(master) == 0 {
		return api.ErrKey
	}
	if len(context) > personalBytes(k) {
		return api.ErrContext
	}
	_, e := param.Plain(k, n, len(master))
	return e
}

func personalBytes(k api.Kind) int {
	if k == api.Small {
		return 8
	}
	return 16
}
