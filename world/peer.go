package world

import (
	"sporran/api"
	"sporran/frame"
	"sporran/message"
)

// peer is what a peer was sent.
type peer struct {
	*frame.Reader               // tells the frames of what it is sent
	waiting       []api.Message // that it has not answered
	out           []byte        // from the beginning on
}

func newPeer() *peer {
	return &peer{Reader: frame.New()}
}

// hear has bytes come to it.
func (p *peer) hear(b []byte) {
	p.out = append(p.out, b...)
	p.waiting = append(p.waiting, messages(p.Reader, b)...)
}

// forget has it have no messages any more.
func (p *peer) forget() {
	p.waiting = nil
}

// next is the first message that waits, which waits no more; false, if there is none.
func (p *peer) next() (api.Message, bool) {
	if len(p.waiting) == 0 {
		return api.Message{}, false
	}
	m := p.waiting[0]
	p.waiting = p.waiting[1:]
	return m, true
}

// messages is those that bytes make whole. What can't be read is let go.
func messages(r *frame.Reader, b []byte) []api.Message {
	frames, _ := r.Feed(b) // a fault: none comes behind
	var l []api.Message
	for _, f := range frames {
		if m, known, e := message.Decode(f); known && !failed(e) {
			l = append(l, m)
		}
	}
	return l
}
