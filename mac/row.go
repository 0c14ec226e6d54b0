package mac

import (
	"bytes"

	"quern/api"
	"quern/param"
	"quern/word"
)

// numberBytes is how many bytes tell, ahead of each part of a row, how long it is.
const numberBytes = 8

// Parts tells the digest of all parts, one behind the other.
func Parts(k api.Kind, n int, key []byte, parts ...[]byte) ([]byte, api.Errno) {
	return digest(k, n, key, nil, nil, parts...)
}

// Tuple tells the digest of the row of parts, which can't be cut otherwise.
func Tuple(k api.Kind, n int, key []byte, parts ...[]byte) ([]byte, api.Errno) {
	// Without salt and personal this is all that Make may refuse; the row's error goes behind it.
	if _, e := param.Plain(k, n, len(key)); e != api.OK {
		return nil, e
	}
	row, e := Row(parts...)
	if e != api.OK {
		return nil, e
	}
	return Make(k, n, key, nil, nil, row)
}

// Row lays parts one behind the other, each with its number of bytes ahead of it.
func Row(parts ...[]byte) ([]byte, api.Errno) {
	size, e := rowBytes(parts)
	if e != api.OK {
		return nil, e
	}
	row := make([]byte, 0, size)
	for _, part := range parts {
		row = append(row, word.Store64(uint64(len(part)))...)
		row = append(row, part...)
	}
	return row, api.OK
}

// rowBytes tells how long the row of parts is. It stops at the first part that is too much, so that the sum stays within an int.
func rowBytes(parts [][]byte) (int, api.Errno) {
	size := 0
	for _, part := range parts {
		size += numberBytes + len(part)
		if size > api.MaxRow {
			return 0, api.ErrLong
		}
	}
	return size, api.OK
}

// Unrow tells the parts of which b is the row, or where the first piece begins that is not whole.
func Unrow(b []byte) ([][]byte, int, api.Errno) {
	if len(b) > api.MaxRow {
		return nil, 0, api.ErrLong
	}
	var parts [][]byte
	rest := bytes.Clone(b)
	for len(rest) > 0 {
		size, e := word.Load64(rest, 0)
		if e != api.OK {
			return nil, len(b) - len(rest), api.ErrForm
		}
		rest = rest[numberBytes:]
		if size > uint64(len(rest)) {
			return nil, len(b) - len(rest), api.ErrForm
		}
		end := int(size)
		// Each part's room ends with it, so that what is appended to one never reaches the next.
		parts = append(parts, rest[:end:end])
		rest = rest[end:]
	}
	return parts, 0, api.OK
}
