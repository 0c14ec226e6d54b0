package slice

import (
	"bytes"

	"quern/api"
	"quern/shape"
)

// Reader takes a laid form piece by piece.
type Reader struct {
	intake *intake // nil: no call made the reader
}

// New tells a reader to which nothing has come.
func New(t api.Tree, digest []byte) (*Reader, api.Errno) {
	if e := shape.Valid(t); e != api.OK {
		return nil, e
	}
	if len(digest) != t.Digest {
		return nil, api.ErrArg
	}
	t.Key, t.Salt, t.Personal = bytes.Clone(t.Key), bytes.Clone(t.Salt), bytes.Clone(t.Personal)
	return &Reader{intakeOf(t, bytes.Clone(digest))}, api.OK
}

func (r *Reader) made() bool {
	return r != nil && r.intake != nil
}

// Write takes bytes of a laid form, or tells why they can't be those of one.
func (r *Reader) Write(b []byte) api.Errno {
	if !r.made() {
		return api.ErrZero
	}
	return r.intake.state(b)
}

// Take tells the bytes of the message that were found sound, as far as they were not taken yet.
func (r *Reader) Take() []byte {
	if !r.made() {
		return nil
	}
	ready := r.intake.ready
	r.intake.ready = nil
	return ready
}

// Total tells how many bytes the message has, once that is known.
func (r *Reader) Total() (uint64, bool) {
	if !r.made() {
		return 0, false
	}
	return r.intake.total, r.intake.told
}

// Done tells whether the whole form has come, and nothing was refused.
func (r *Reader) Done() bool {
	return r.made() && r.intake.done
}
