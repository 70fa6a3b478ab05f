package tree

import (
	"slices"

	"sporran/api"
	"sporran/target"
	"sporran/wide"
)

const medianOf = 11 // headers

// node is a header in its place.
type node struct {
	id     api.Hash
	header api.Header
	height int
	work   api.Wide
	parent *node // nil of the first one
	far    *node // one some way ahead (of the first one itself): how far hangs on the height alone
}

// begin is the node of the first header.
func begin(id api.Hash, h api.Header) *node {
	n := &node{id: id, header: h, work: workOf(h)}
	n.far = n
	return n
}

// child is the node of a header behind n. Its far one is the parent, or, where the two jumps behind the parent are equally long, the end of these: so that each height is reached in few jumps.
func (n *node) child(id api.Hash, h api.Header) *node {
	work, _ := wide.Add(n.work, workOf(h))
	c := &node{id: id, header: h, height: n.height + 1, work: work, parent: n, far: n}
	if n.height-n.far.height == n.far.height-n.far.far.height {
		c.far = n.far.far
	}
	return c
}

func workOf(h api.Header) api.Wide {
	work, _ := target.Work(h.Bits) // no error: they are those of a target, or the node would not be
	return work
}

// at is the node at a height, 0 to that of n, on the way to n.
func (n *node) at(height int) *node {
	for n.height > height {
		if n.far.height >= height {
			n = n.far
		} else {
			n = n.parent
		}
	}
	return n
}

// fork is the last node on both ways. Of two equally high ones the far ones are equally high, too.
func fork(a, b *node) *node {
	a, b = a.at(b.height), b.at(a.height)
	for a.id != b.id {
		if a.far.id != b.far.id {
			a, b = a.far, b.far
		} else {
			a, b = a.parent, b.parent
		}
	}
	return a
}

// way goes from a node to the first one.
func (n *node) way(yield func(*node) bool) {
	for n != nil && yield(n) {
		n = n.parent
	}
}

// median is that of the times of the last nodes on the way to n.
func (n *node) median() uint32 {
	times := make([]uint32, 0, medianOf)
	for m := range n.way {
		times = append(times, m.header.Time)
		if len(times) == medianOf {
			break
		}
	}
	slices.Sort(times)
	return times[len(times)/2]
}
