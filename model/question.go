package model

import (
	"bytes"

	"sporran/api"
	"sporran/copies"
	"sporran/filter"
)

const protocol = 70015 // the version that a peer says

// question is what a peer is asked. Each kind of question has answers of its own.
type question interface {
	answers(s *state) []api.Message
}

// The kinds of questions.
type (
	helloSaid    struct{}
	pinged       uint64
	headersAsked struct {
		known []api.Hash
		stop  api.Hash
	}
	sumsAsked    span
	filtersAsked span
	bodiesAsked  []api.Hash
	nothingAsked struct{}
)

// span is blocks from a height on to one.
type span struct {
	from uint32
	stop api.Hash
}

func questionOf(x api.Message) question {
	switch x.Kind {
	case api.MsgVersion:
		return helloSaid{}
	case api.MsgPing:
		return pinged(x.Nonce)
	case api.MsgGetHeaders:
		return headersAsked{x.Hashes, x.Stop}
	case api.MsgGetSums:
		return sumsAsked{x.Number, x.Stop}
	case api.MsgGetFilter:
		return filtersAsked{x.Number, x.Stop}
	case api.MsgGetData:
		return bodiesAsked(x.Hashes)
	}
	return nothingAsked{}
}

func (helloSaid) answers(*state) []api.Message {
	return []api.Message{{Kind: api.MsgVersion, Number: protocol}, {Kind: api.MsgVerack}}
}

func (q pinged) answers(*state) []api.Message {
	return []api.Message{{Kind: api.MsgPong, Nonce: uint64(q)}}
}

// answers is the headers of the way to the best block, behind the first one that is known.
func (q headersAsked) answers(s *state) []api.Message {
	best := s.tree.Tip()
	from := 0
	for _, id := range q.known {
		if s.onWay(id, best) {
			from, _ = s.tree.Height(id)
			break
		}
	}
	m := api.Message{Kind: api.MsgHeaders}
	for _, id := range s.way(best, from+1) {
		m.Headers = append(m.Headers, s.blocks[id].block.Header)
		if len(m.Headers) == api.MaxHeaders || id == q.stop {
			break
		}
	}
	return []api.Message{m}
}

func (q sumsAsked) answers(s *state) []api.Message {
	ids := span(q).blocks(s)
	if len(ids) == 0 {
		return nil
	}
	ahead := s.blocks[ids[0]].block.Header.Prev
	m := api.Message{Kind: api.MsgSums, Stop: q.stop, Prev: s.blocks[ahead].chain}
	for _, id := range ids {
		m.Hashes = append(m.Hashes, filter.Sum(s.blocks[id].filter))
	}
	return []api.Message{m}
}

func (q filtersAsked) answers(s *state) []api.Message {
	var l []api.Message
	for _, id := range span(q).blocks(s) {
		l = append(l, api.Message{Kind: api.MsgFilter, Stop: id, Bytes: bytes.Clone(s.blocks[id].filter)})
	}
	return l
}

func (q bodiesAsked) answers(s *state) []api.Message {
	var l []api.Message
	for _, id := range q {
		if k, ok := s.blocks[id]; ok {
			l = append(l, api.Message{Kind: api.MsgBlock, Block: copies.Block(k.block)})
		} else {
			l = append(l, api.Message{Kind: api.MsgNotFound, Hashes: []api.Hash{id}})
		}
	}
	return l
}

func (nothingAsked) answers(*state) []api.Message {
	return nil
}

// blocks is those of a span; none, if its end is not there, or below its beginning. (A model has too few for a span of more than 1000, which has no answer.)
func (q span) blocks(s *state) []api.Hash {
	return s.way(q.stop, int(q.from))
}
