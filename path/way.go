package path

import (
	"bytes"
	"slices"

	"quern/api"
	"quern/node"
	"quern/shape"
)

// way is that of a leaf up to the root, told by the message's length alone.
type way struct {
	tree  api.Tree
	total uint64
	leaf  api.Spot
	forks []fork // from the leaf's parent on
}

// fork is a node on the way: where it stands, and which of its children is on the way too.
type fork struct {
	spot  api.Spot
	child uint64
}

// before and after tell how many children stand ahead of that on the way, and behind it.
func (f fork) before() uint64 { return f.child - f.spot.From }
func (f fork) after() uint64  { return f.spot.To - f.child - 1 }

// find tells the way of a leaf, or shape's error.
func find(t api.Tree, total, leaf uint64) (way, api.Errno) {
	spot, e := shape.Spot(t, total, 0, leaf)
	if e != api.OK {
		return way{}, e
	}
	w := way{tree: t, total: total, leaf: spot}
	for !spot.Root {
		// A node that is there and is not the root has one above it: neither call is refused.
		at, _ := shape.Parent(t, total, spot.Row, spot.At)
		above, _ := shape.Spot(t, total, spot.Row+1, at)
		w.forks = append(w.forks, fork{spot: above, child: spot.At})
		spot = above
	}
	return w, api.OK
}

// path tells a path of as many steps as the way has, nothing in them yet.
func (w way) path() api.Path {
	return api.Path{Total: w.total, Leaf: w.leaf.At, Steps: make([]api.Step, len(w.forks))}
}

// digests tells how many stand beside the way. Each lies over leaves of its own, so they are fewer than these, and the sum fits.
func (w way) digests() uint64 {
	sum := uint64(0)
	for _, f := range w.forks {
		sum += f.before() + f.after()
	}
	return sum
}

// fits tells whether steps may be those of a path along this way.
func (w way) fits(steps []api.Step) bool {
	return slices.EqualFunc(w.forks, steps, func(f fork, s api.Step) bool {
		return w.wide(s.Before, f.before()) && w.wide(s.After, f.after())
	})
}

// wide tells whether a list has n digests, each of Inner bytes.
func (w way) wide(list [][]byte, n uint64) bool {
	if uint64(len(list)) != n {
		return false
	}
	for _, digest := range list {
		if len(digest) != w.tree.Inner {
			return false
		}
	}
	return true
}

// rise is one step up: what a node gives, by what its child on the way gives.
type rise func(child []byte) []byte

// rises tells the way up, step by step, with what these steps tell of the other children.
func (w way) rises(steps []api.Step) []rise {
	list := make([]rise, 0, len(w.forks))
	for i, f := range w.forks {
		list = append(list, func(child []byte) []byte {
			children := slices.Concat(steps[i].Before, [][]byte{child}, steps[i].After)
			return w.give(f.spot, bytes.Join(children, nil))
		})
	}
	return list
}

// give tells what a node with these data gives.
func (w way) give(s api.Spot, data []byte) []byte {
	// Each node of a tree that may be is one that shape and node take.
	p, _ := shape.Params(w.tree, w.total, s.Row, s.At)
	var key []byte
	if s.Row == 0 {
		key = w.tree.Key
	}
	out := w.tree.Inner
	if s.Root {
		out = w.tree.Digest
	}
	digest, _ := node.Hash(w.tree.Kind, p, key, s.Last, out, data)
	return digest
}
