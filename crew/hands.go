package crew

import (
	"sync"
	"sync/atomic"

	"quern/api"
)

// piece is what a hand hashes at a time: a leaf or a message, and its place among those that are handed out with it.
type piece struct {
	at   int
	data []byte
}

// byHands tells what hash makes of each piece, in order, and how many were hashed. It is done by at most as many hands as the pool has, and all of them have ended when it comes back.
func byHands(p api.Pool, list [][]byte, hash func(piece) []byte) ([][]byte, uint64) {
	outputs := make([][]byte, len(list))
	// A hand without a piece would have nothing to do, and more room than pieces would stay empty.
	pieces := make(chan piece, min(p.Queue, len(list)))
	var hands sync.WaitGroup
	var hashed atomic.Uint64
	for range min(p.Workers, len(list)) {
		hands.Add(1)
		go func() {
			defer hands.Done()
			for x := range pieces {
				outputs[x.at] = hash(x)
				hashed.Add(1)
			}
		}()
	}
	for at, data := range list {
		pieces <- piece{at, data}
	}
	close(pieces)
	hands.Wait()
	return outputs, hashed.Load()
}
