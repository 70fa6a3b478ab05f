package client

import (
	"math"
	"slices"

	"sporran/api"
	"sporran/block"
	"sporran/filter"
	"sporran/header"
	"sporran/votes"
)

// answer is what a peer tells when it was asked. Each kind of answer is taken in a way of its own.
type answer interface {
	take(s *state, from *peer)
}

// The kinds of answers.
type (
	headersTold []api.Header
	sumsTold    struct {
		id   api.Hash
		sums []api.Hash
	}
	filterTold struct {
		id    api.Hash
		bytes []byte
	}
	bodyTold    api.Block
	nothingTold struct{}
)

// answerOf is the answer of a message that answers something.
func answerOf(m api.Message) answer {
	switch m.Kind {
	case api.MsgHeaders:
		return headersTold(m.Headers)
	case api.MsgSums:
		return sumsTold{m.Stop, m.Hashes}
	case api.MsgFilter:
		return filterTold{m.Stop, m.Bytes}
	case api.MsgBlock:
		return bodyTold(m.Block)
	}
	return nothingTold{}
}

// take has the tree take headers, up to the first one that it refuses.
func (a headersTold) take(s *state, from *peer) {
	var puts []api.Pair
	for _, h := range a {
		isNew, e := s.tree.Accept(h, math.MaxUint32)
		if e != api.OK {
			s.drop(from)
			break
		}
		if isNew {
			s.headers++
			puts = append(puts, headerPair(s.headers, h))
		}
	}
	if len(puts) == 0 {
		from.done = true
		return
	}
	s.commit(api.Batch{Puts: puts})
}

// take has a sum of the next block's filter be the peer's vote.
func (a sumsTold) take(s *state, from *peer) {
	if !s.isNext(a.id) {
		return
	}
	if len(a.sums) != 1 {
		s.drop(from)
		return
	}
	s.next.votes.Vote(from.number, a.sums[0])
}

// take has the next block's filter be there; or, where the body is, show whether the peer lied.
func (a filterTold) take(s *state, from *peer) {
	if !s.isNext(a.id) {
		return
	}
	vote, ok := s.next.voteOf(from)
	if !ok {
		return
	}
	switch {
	case s.next.body != nil:
		if votes.Lies(*s.next.body, a.bytes, vote) {
			s.drop(from)
		}
	case filter.Sum(a.bytes) != vote || !isFilter(a.bytes):
		s.drop(from)
	default:
		s.next.filter = a.bytes
	}
}

// take has the next block's body be there.
func (a bodyTold) take(s *state, from *peer) {
	b := api.Block(a)
	if !s.isNext(header.ID(b.Header)) {
		return
	}
	if block.Check(b) != api.OK {
		s.drop(from)
		return
	}
	s.next.body = &b
}

// take has a peer go that has not what it was asked for.
func (nothingTold) take(s *state, from *peer) {
	s.drop(from)
}

func (s *state) isNext(id api.Hash) bool {
	return s.next != nil && s.next.id == id
}

// voteOf is what a peer says; false, if it has not voted.
func (n *nextBlock) voteOf(p *peer) (api.Hash, bool) {
	for _, sum := range n.votes.Sums() {
		if slices.Contains(n.votes.Peers(sum), p.number) {
			return sum, true
		}
	}
	return api.Hash{}, false
}

func isFilter(b []byte) bool {
	_, e := filter.Values(b)
	return e == api.OK
}
