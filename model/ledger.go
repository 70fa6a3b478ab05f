package model

import (
	"sporran/api"
	"sporran/copies"
	"sporran/filter"
	"sporran/header"
	"sporran/tx"
)

// ledger is where transactions stand, by their ID: in each block that has one, once. (What one says hangs on its ID; so where it stands twice in a block plays no part.)
type ledger map[api.Hash][]place

type place struct {
	block api.Hash
	outs  []api.Out
}

// add keeps a block that the tree has, and what is told of it.
func (s *state) add(b api.Block, l ledger) api.Errno {
	b = copies.Block(b)
	id := header.ID(b.Header)
	f, e := filter.Build(id, filter.Items(b, s.spent(b, id, l)))
	if e != api.OK {
		return e
	}
	ahead := s.blocks[b.Header.Prev].chain // noughts ahead of the first one
	s.blocks[id] = known{block: b, filter: f, chain: filter.Chain(filter.Sum(f), ahead)}
	return api.OK
}

// spent is the scripts of the outputs that a block's inputs name, and has the ledger go on by the block's transactions, so that each input finds those ahead of its own alone.
func (s *state) spent(b api.Block, id api.Hash, l ledger) [][]byte {
	var scripts [][]byte
	for _, t := range b.Txs {
		for _, in := range t.In {
			scripts = append(scripts, s.scriptAt(in.Prev, id, l))
		}
		own, _ := tx.ID(t) // no error: the block was checked
		l.note(own, place{block: id, outs: t.Out})
	}
	return scripts
}

// scriptAt is that of the output which a point names, if it stands on the way to a block, or within it; else none, which is no item of a filter.
func (s *state) scriptAt(p api.Point, to api.Hash, l ledger) []byte {
	for _, at := range l[p.ID] {
		if uint64(p.Index) < uint64(len(at.outs)) && s.onWay(at.block, to) {
			return at.outs[p.Index].Script
		}
	}
	return nil
}

// note has a transaction stand in a block. Those of one block come one behind the other.
func (l ledger) note(id api.Hash, at place) {
	known := l[id]
	if len(known) > 0 && known[len(known)-1].block == at.block {
		return
	}
	l[id] = append(known, at)
}
