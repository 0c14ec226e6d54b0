package slice

import (
	"quern/api"
	"quern/word"
)

// intake is what a reader has of a laid form, and what it does with the next bytes.
type intake struct {
	state  func(b []byte) api.Errno // takes b
	tree   api.Tree
	digest []byte
	proof  proof
	spot   api.Spot // of the node whose piece comes next
	held   []byte   // of the eight bytes, or of this piece, as far as it has come

	total uint64
	told  bool   // total is known
	ready []byte // of the message: found sound, and not taken yet
	done  bool
	why   api.Errno // of one that has refused
}

// intakeOf tells one to which nothing has come. Its lists are its own.
func intakeOf(t api.Tree, digest []byte) *intake {
	i := &intake{tree: t, digest: digest}
	i.state = i.head
	return i
}

// head is the state ahead of the end of the eight bytes.
func (i *intake) head(b []byte) api.Errno {
	b, whole := i.hold(b, headBytes)
	if !whole {
		return api.OK
	}
	total, _ := word.Load64(i.held, 0)
	if total > api.MaxTotal {
		return i.refuse(api.ErrTotal)
	}
	i.total, i.told, i.held = total, true, nil
	f := formOf(i.tree, total, 0, all)
	i.proof, i.spot = proofOf(f, i.digest), f.root()
	i.state = i.body
	return i.body(b)
}

// body is the state among the pieces.
func (i *intake) body(b []byte) api.Errno {
	f := i.proof.form
	for more := true; more; i.spot, more = f.next(i.spot) {
		var whole bool
		b, whole = i.hold(b, f.size(i.spot))
		if !whole {
			return api.OK
		}
		if !i.settle() {
			return i.refuse(api.ErrFalse)
		}
	}
	i.rest(i.end)
	i.done = true
	return i.end(b)
}

// hold moves the first bytes of b to those that are held, till these are size bytes, and tells what is left, and whether they are.
func (i *intake) hold(b []byte, size uint64) (left []byte, whole bool) {
	n := min(size-uint64(len(i.held)), uint64(len(b)))
	// The form tells how long a piece is, and may lie: the buffer grows with what comes.
	i.held = append(i.held, b[:n]...)
	return b[n:], uint64(len(i.held)) == size
}

// settle tells whether the piece that is held is sound, and if so lets go of it.
func (i *intake) settle() bool {
	if !i.proof.sound(i.spot, i.held) {
		return false
	}
	if i.spot.Row == 0 {
		i.ready = append(i.ready, i.held...)
	}
	// The proof may hold on to these bytes: the next piece has others.
	i.held = nil
	return true
}

// end is the state behind the last piece.
func (i *intake) end(b []byte) api.Errno {
	if len(b) > 0 {
		return i.refuse(api.ErrMore)
	}
	return api.OK
}

// refuse goes over to a state in which nothing is taken any more.
func (i *intake) refuse(why api.Errno) api.Errno {
	i.rest(i.refused)
	i.why = why
	return why
}

// refused is the state behind an error.
func (i *intake) refused([]byte) api.Errno {
	return i.why
}

// rest goes over to a state that needs nothing of the form, and keeps what may still be asked for.
func (i *intake) rest(state func([]byte) api.Errno) {
	*i = intake{state: state, total: i.total, told: i.told, ready: i.ready}
}
