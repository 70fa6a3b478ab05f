package client

import (
	"slices"

	"sporran/api"
	"sporran/session"
)

// peer is one that is there. One that comes again with the same number is another one.
type peer struct {
	number  int
	session *session.Session
	since   int  // the tick at which it came
	done    bool // it had no new headers, when it was asked last
}

func (p *peer) ready() bool {
	return p.session.Ready()
}

// free tells whether it can be asked something.
func (p *peer) free() bool {
	_, waits := p.session.Waits()
	return p.ready() && !waits
}

// lacks tells whether it may have new headers.
func (p *peer) lacks() bool {
	return p.ready() && !p.done
}

// late tells whether it has not answered, or not said hello, for too long.
func (p *peer) late(now int) bool {
	return p.session.Late(now) || !p.ready() && now-p.since >= api.Deadline
}

// owesFilter tells whether it was asked for a block's filter.
func (p *peer) owesFilter(id api.Hash) bool {
	m, waits := p.session.Waits()
	return waits && m.Kind == api.MsgGetFilter && m.Stop == id
}

// owesBody tells whether it was asked for a block.
func (p *peer) owesBody(id api.Hash) bool {
	m, waits := p.session.Waits()
	return waits && m.Kind == api.MsgGetData && m.Hashes[0] == id
}

// find is the peer of a number; nil, if it is not there.
func (s *state) find(number int) *peer {
	for _, p := range s.peers {
		if p.number == number {
			return p
		}
	}
	return nil
}

func (s *state) send(p *peer, b []byte) {
	s.sent = append(s.sent, api.Sent{Peer: p.number, Bytes: b})
}

// ask sends a request to a peer that is free.
func (s *state) ask(p *peer, m api.Message) {
	b, _ := p.session.Ask(m, s.clock) // no error: it is free, and m a request
	s.send(p, b)
}

// drop has a peer go, and tells it.
func (s *state) drop(p *peer) {
	s.forget(p)
	s.sent = append(s.sent, api.Sent{Peer: p.number, Drop: true})
}

// forget has a peer go.
func (s *state) forget(p *peer) {
	s.peers = slices.DeleteFunc(s.peers, func(x *peer) bool { return x == p })
	if s.next != nil {
		s.next.votes.Leave(p.number) // an error: it has not voted
	}
}
