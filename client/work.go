package client

import (
	"slices"

	"sporran/api"
	"sporran/filter"
	"sporran/purse"
	"sporran/votes"
)

const protocol = 70015 // the version whose headers are asked for

// nextBlock is the one behind the cursor, and what peers told of it.
type nextBlock struct {
	id     api.Hash
	height int
	votes  *votes.Votes
	filter []byte     // nil, as long as there is none: one has a byte at least
	body   *api.Block // nil, as long as there is none
	tried  []*peer    // who was asked for a filter because sums part
}

// verdict is what a step leaves to do.
type verdict int

const (
	onward verdict = iota // the next step
	afresh                // the first step once more
	rest                  // nothing, until a call changes something
)

// work does all that can be done.
func (s *state) work() {
	steps := [...]func(*state) verdict{
		(*state).askHeaders,
		(*state).awaitHeaders,
		(*state).goBack,
		(*state).arrive,
		(*state).tellNext,
		(*state).askSums,
		(*state).askFilter,
		(*state).askBody,
		(*state).askFilters,
		(*state).apply,
	}
again:
	for {
		for _, step := range steps {
			switch step(s) {
			case afresh:
				continue again
			case rest:
				break again
			}
		}
	}
}

func (s *state) askHeaders() verdict {
	for _, p := range s.peers {
		if p.free() && p.lacks() {
			s.ask(p, api.Message{Kind: api.MsgGetHeaders, Number: protocol, Hashes: s.tree.Locator()})
		}
	}
	return onward
}

func (s *state) awaitHeaders() verdict {
	if s.lacksHeaders() {
		return rest
	}
	return onward
}

// lacksHeaders tells whether there may be headers that nobody has told yet.
func (s *state) lacksHeaders() bool {
	return slices.ContainsFunc(s.peers, (*peer).lacks) || !slices.ContainsFunc(s.peers, (*peer).ready)
}

// goBack takes the cursor's block back, if it is not on the way to the tip.
func (s *state) goBack() verdict {
	height, _ := s.tree.Height(s.cursor)
	if id, ok := s.tree.At(s.tree.Tip(), height); ok && id == s.cursor {
		return onward
	}
	own, _ := s.tree.Header(s.cursor)
	before := s.purse.Coins()
	var more api.Batch
	if d, ok := s.didOf(s.cursor); ok {
		s.purse.Back(d.undo) // an error: the journal came with coins that don't belong together; they stay as they are
		more = s.coinChanges(before)
		more.Deletes = append(more.Deletes, didKey(s.cursor))
	}
	if !s.move(own.Prev, more) {
		s.restore(before)
		return rest
	}
	return afresh
}

func (s *state) arrive() verdict {
	if s.cursor == s.tree.Tip() {
		return rest
	}
	return onward
}

// tellNext tells which block is the next one. What peers told of another one, or the last time, plays no part any more.
func (s *state) tellNext() verdict {
	height, _ := s.tree.Height(s.cursor)
	height++
	id, _ := s.tree.At(s.tree.Tip(), height)
	if s.next == nil || s.next.id != id {
		s.next = &nextBlock{id: id, height: height, votes: votes.New(id)}
	}
	if len(s.purse.Items()) == 0 {
		return s.pass()
	}
	return onward
}

func (s *state) askSums() verdict {
	for _, p := range s.peers {
		if p.free() && !s.voted(p) {
			s.ask(p, s.request(api.MsgGetSums))
		}
	}
	for _, p := range s.peers {
		if p.ready() && !s.voted(p) {
			return rest
		}
	}
	return onward
}

// askFilter has the filter tell whether the block is of interest, if all peers say the same of it.
func (s *state) askFilter() verdict {
	n := s.next
	sums := n.votes.Sums()
	switch {
	case len(sums) > 1 || n.body != nil:
		return onward
	case n.filter == nil:
		if !slices.ContainsFunc(s.peers, s.owesFilter) {
			s.askFirst(n.votes.Peers(sums[0]))
		}
		return rest
	}
	match, _ := filter.Match(n.id, n.filter, s.purse.Items()) // no error: it was asked whether it is one when it came
	if !match {
		return s.pass()
	}
	return onward
}

// askFirst asks the first one of some peers that is free for the filter.
func (s *state) askFirst(numbers []int) {
	for _, number := range numbers {
		if p := s.find(number); p.free() {
			s.ask(p, s.request(api.MsgGetFilter))
			return
		}
	}
}

func (s *state) askBody() verdict {
	if s.next.body != nil {
		return onward
	}
	i := slices.IndexFunc(s.peers, (*peer).free)
	if i >= 0 && !slices.ContainsFunc(s.peers, s.owesBody) {
		s.ask(s.peers[i], api.Message{Kind: api.MsgGetData, Hashes: []api.Hash{s.next.id}})
		s.fetched = append(s.fetched, s.next.id)
	}
	return rest
}

// askFilters has all peers show what they say, if they don't say the same.
func (s *state) askFilters() verdict {
	n := s.next
	if len(n.votes.Sums()) == 1 {
		return onward
	}
	for _, p := range s.peers {
		if p.free() && s.voted(p) && !slices.Contains(n.tried, p) {
			s.ask(p, s.request(api.MsgGetFilter))
			n.tried = append(n.tried, p)
		}
	}
	if slices.ContainsFunc(s.peers, s.owesFilter) {
		return rest
	}
	return onward
}

func (s *state) apply() verdict {
	n := s.next
	before := s.purse.Coins()
	undo, _ := s.purse.Apply(*n.body, n.height) // no error: the body was checked when it came
	d := did{undo: undo, entries: purse.Effects(undo, *n.body, n.height)}
	more := s.coinChanges(before)
	if !d.nothing() {
		more.Puts = append(more.Puts, didPair(n.id, d))
	}
	if !s.move(n.id, more) {
		s.restore(before)
		return rest
	}
	return afresh
}

// pass has the cursor go on to the next block, which is of no interest.
func (s *state) pass() verdict {
	if !s.move(s.next.id, api.Batch{}) {
		return rest
	}
	return afresh
}

// request is one of what is told of the next block by its height.
func (s *state) request(kind int) api.Message {
	return api.Message{Kind: kind, Number: uint32(s.next.height), Stop: s.next.id}
}

func (s *state) voted(p *peer) bool {
	return s.next.votes.Has(p.number)
}

func (s *state) owesFilter(p *peer) bool {
	return p.owesFilter(s.next.id)
}

func (s *state) owesBody(p *peer) bool {
	return p.owesBody(s.next.id)
}
