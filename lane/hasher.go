package lane

import (
	"bytes"

	"quern/api"
	"quern/node"
)

// Hasher takes a message piece by piece.
type Hasher struct {
	shared                      // its kind is none: no call made the hasher
	hash   [mostLanes]node.Node // of each lane, over what was dealt to it; none behind the lanes' number
	taken  uint64
}

// New tells a hasher that has taken nothing.
func New(k api.Kind, digest int, key, salt, personal []byte) (*Hasher, api.Errno) {
	s, e := sharedOf(k, digest, len(key), salt, personal)
	if e != api.OK {
		return nil, e
	}
	s.salt, s.personal = bytes.Clone(salt), bytes.Clone(personal)
	h := &Hasher{shared: s}
	for i := range h.lanes() {
		h.hash[i] = *h.lane(i).hasher(key)
	}
	return h, api.OK
}

func (h *Hasher) made() bool {
	return h != nil && h.lanes() > 0
}

// next tells the lane to which the next byte belongs, and how many bytes its block has room for.
func (h *Hasher) next() (lane, room int) {
	at := int(h.taken % uint64(h.roundBytes()))
	return at / h.blockBytes(), h.blockBytes() - at%h.blockBytes()
}

// Write takes b behind all that was taken.
func (h *Hasher) Write(b []byte) api.Errno {
	if !h.made() {
		return api.ErrZero
	}
	for len(b) > 0 {
		lane, room := h.next()
		n := min(room, len(b))
		h.hash[lane].Write(b[:n])
		h.taken += uint64(n)
		b = b[n:]
	}
	return api.OK
}

// Sum tells the digest of all that was taken.
func (h *Hasher) Sum() []byte {
	if !h.made() {
		return nil
	}
	outputs := make([][]byte, h.lanes())
	for i := range h.lanes() {
		outputs[i], _ = h.hash[i].Out(h.inner())
	}
	digest, _ := node.Call(h.rootCall(outputs))
	return digest
}

// Reset lets go of all that was taken.
func (h *Hasher) Reset() api.Errno {
	if !h.made() {
		return api.ErrZero
	}
	for i := range h.lanes() {
		h.hash[i].Reset()
		// A node's Reset takes its flag back, too.
		h.hash[i].Last(h.lane(i).last())
	}
	h.taken = 0
	return api.OK
}

// Taken tells how many bytes were taken, and to which lane the next one belongs.
func (h *Hasher) Taken() (uint64, int) {
	if !h.made() {
		return 0, 0
	}
	lane, _ := h.next()
	return h.taken, lane
}

// Fork tells a hasher of its own that has taken the same.
func (h *Hasher) Fork() *Hasher {
	if !h.made() {
		return nil
	}
	fork := &Hasher{shared: h.shared, taken: h.taken}
	for i := range h.lanes() {
		fork.hash[i] = *h.hash[i].Copy()
	}
	return fork
}
