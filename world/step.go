package world

import (
	"sporran/api"
	"sporran/client"
	"sporran/frame"
	"sporran/message"
)

const (
	mostTicks  = 1000
	mostRounds = 300
)

// can tells whether a step may be done, as far as its Kind and N tell.
func (s *state) can(x api.Step) bool {
	switch x.Kind {
	case api.StepConnect, api.StepDrop, api.StepWatch, api.StepServe, api.StepLose, api.StepInject, api.StepBytes:
		return s.runs() && isPeer(x.N)
	case api.StepTick:
		return s.runs() && x.N >= 0 && x.N <= mostTicks
	case api.StepSettle:
		return s.runs() && x.N >= 0 && x.N <= mostRounds
	case api.StepStart:
		return !s.runs()
	case api.StepCrash, api.StepFuse, api.StepRoom:
		return true
	}
	return false
}

// run does a step that may be done.
func (s *state) run(x api.Step) api.Errno {
	switch x.Kind {
	case api.StepConnect:
		return s.hand(s.client.Connect(x.N))
	case api.StepDrop:
		return s.drop(x.N)
	case api.StepWatch:
		return s.hand(s.client.Watch(x.Bytes))
	case api.StepServe:
		return s.serve(x.N)
	case api.StepLose:
		return s.lose(x.N)
	case api.StepInject:
		return s.say(x.N, x.Message)
	case api.StepBytes:
		return s.feed(x.N, x.Bytes)
	case api.StepTick:
		return s.tick(x.N)
	case api.StepSettle:
		return s.settle(x.N)
	case api.StepCrash:
		return s.crash(x.N)
	case api.StepStart:
		return s.start()
	case api.StepFuse:
		return s.tape.Fuse(x.N)
	}
	return s.tape.Room(x.N)
}

func (s *state) runs() bool {
	return s.client != nil
}

// hand hands what the client sends to its peers. One that the client was told of from elsewhere may have a number that is none here.
func (s *state) hand(sent []api.Sent, e api.Errno) api.Errno {
	for _, x := range sent {
		if !isPeer(x.Peer) {
			continue
		}
		s.peers[x.Peer].hear(x.Bytes)
		if x.Drop {
			s.peers[x.Peer].forget()
		}
	}
	return e
}

func (s *state) drop(n int) api.Errno {
	e := s.hand(s.client.Gone(n))
	if !failed(e) {
		s.peers[n].forget()
	}
	return e
}

// serve has a peer answer its first message, which waits no more, whatever comes of that.
func (s *state) serve(n int) api.Errno {
	m, ok := s.peers[n].next()
	if !ok {
		return api.ErrArg
	}
	for _, x := range s.model.Answer(m) {
		if e := s.say(n, x); failed(e) {
			return e
		}
	}
	return api.OK
}

func (s *state) lose(n int) api.Errno {
	if _, ok := s.peers[n].next(); !ok {
		return api.ErrArg
	}
	return api.OK
}

// say has a peer say a message.
func (s *state) say(n int, m api.Message) api.Errno {
	b, e := message.Bytes(m)
	if failed(e) {
		return e
	}
	return s.feed(n, b)
}

// feed has a peer say bytes. Blocks among them have come even if the client answers an error: a batch that halts it may last.
func (s *state) feed(n int, b []byte) api.Errno {
	for _, m := range messages(frame.New(), b) {
		if m.Kind == api.MsgBlock {
			s.bodies = append(s.bodies, m.Block)
		}
	}
	return s.hand(s.client.Feed(n, b))
}

func (s *state) tick(n int) api.Errno {
	for range n {
		if e := s.hand(s.client.Tick()); failed(e) {
			return e
		}
	}
	return api.OK
}

// settle is rounds in which all peers answer what they have when it is their turn. Errors play no part.
func (s *state) settle(n int) api.Errno {
	for range n {
		for i, p := range s.peers {
			for range len(p.waiting) {
				s.serve(i)
			}
		}
		s.tick(1)
	}
	return api.OK
}

func (s *state) crash(n int) api.Errno {
	s.client = nil
	for _, p := range s.peers {
		p.forget()
	}
	return s.tape.Crash(n)
}

// start has the client run on what the tape has.
func (s *state) start() api.Errno {
	c, e := client.Open(s.params, s.tape)
	if failed(e) {
		return e
	}
	s.client = c
	return api.OK
}
