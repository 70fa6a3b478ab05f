package world_test

import (
	"fmt"
	"math/rand"
	"slices"
	"testing"

	"sporran/api"
	"sporran/client"
	"sporran/filter"
	"sporran/frame"
	"sporran/message"
	"sporran/model"
	"sporran/tape"
)

// plain is what chapter 23 says, word by word: random scripts hold the world against it.
type plain struct {
	p      api.Params
	m      *model.Model
	x      *tape.Tape
	c      *client.Client
	asked  [8][]api.Message
	out    [8][]byte
	bodies []api.Block
}

func newPlain(p api.Params, blocks []api.Block, room int) *plain {
	w := &plain{p: p}
	w.m, _ = model.New(p, blocks)
	w.x, _ = tape.New(room)
	w.c, _ = client.Open(p, w.x)
	return w
}

func (w *plain) do(s api.Step) api.Errno {
	up := w.c != nil
	in := s.N >= 0 && s.N < 8
	switch {
	case s.Kind == api.StepCrash:
		w.c = nil
		clear(w.asked[:])
		return w.x.Crash(s.N)
	case s.Kind == api.StepFuse:
		return w.x.Fuse(s.N)
	case s.Kind == api.StepRoom:
		return w.x.Room(s.N)
	case s.Kind == api.StepStart && !up:
		c, e := client.Open(w.p, w.x)
		if e == api.OK {
			w.c = c
		}
		return e
	case s.Kind == api.StepTick && up && s.N >= 0 && s.N <= 1000:
		for range s.N {
			if e := w.send(w.c.Tick()); e != api.OK {
				return e
			}
		}
		return api.OK
	case s.Kind == api.StepSettle && up && s.N >= 0 && s.N <= 300:
		for range s.N {
			for n := range 8 {
				for i := len(w.asked[n]); i > 0; i-- {
					w.serve(n)
				}
			}
			w.send(w.c.Tick())
		}
		return api.OK
	case !up || !in:
		return api.ErrArg
	}
	return w.doOf(s)
}

// doOf does a step of a peer.
func (w *plain) doOf(s api.Step) api.Errno {
	switch s.Kind {
	case api.StepConnect:
		return w.send(w.c.Connect(s.N))
	case api.StepDrop:
		l, e := w.c.Gone(s.N)
		if e == api.OK {
			w.asked[s.N] = nil
		}
		return w.send(l, e)
	case api.StepWatch:
		return w.send(w.c.Watch(s.Bytes))
	case api.StepServe:
		return w.serve(s.N)
	case api.StepLose:
		if len(w.asked[s.N]) == 0 {
			return api.ErrArg
		}
		w.asked[s.N] = w.asked[s.N][1:]
		return api.OK
	case api.StepInject:
		b, e := message.Bytes(s.Message)
		if e != api.OK {
			return e
		}
		return w.feed(s.N, b)
	case api.StepBytes:
		return w.feed(s.N, s.Bytes)
	}
	return api.ErrArg
}

func (w *plain) serve(n int) api.Errno {
	if len(w.asked[n]) == 0 {
		return api.ErrArg
	}
	m := w.asked[n][0]
	w.asked[n] = slices.Clone(w.asked[n][1:])
	for _, x := range w.m.Answer(m) {
		b, e := message.Bytes(x)
		if e != api.OK {
			return e
		}
		if e := w.feed(n, b); e != api.OK {
			return e
		}
	}
	return api.OK
}

func (w *plain) feed(n int, b []byte) api.Errno {
	frames, _ := frame.New().Feed(b)
	for _, f := range frames {
		m, known, e := message.Decode(f)
		if known && e == api.OK && m.Kind == api.MsgBlock {
			w.bodies = append(w.bodies, m.Block)
		}
	}
	return w.send(w.c.Feed(n, b))
}

func (w *plain) send(l []api.Sent, e api.Errno) api.Errno {
	for _, x := range l {
		if x.Drop {
			w.asked[x.Peer] = nil
			continue
		}
		w.out[x.Peer] = append(w.out[x.Peer], x.Bytes...)
		frames, _ := frame.New().Feed(x.Bytes)
		for _, f := range frames {
			m, _, _ := message.Decode(f)
			w.asked[x.Peer] = append(w.asked[x.Peer], m)
		}
	}
	return e
}

// forest is blocks in random ways, with transactions that spend each other's outputs.
func forest(r *rand.Rand, n int) []api.Block {
	all := []api.Block{mine(api.Hash{}, 1000, pay(0, nil, script(0), script(1)))}
	spendable := points(at(all[0].Txs[0], 0), at(all[0].Txs[0], 1))
	for i := 1; len(all) < n; i++ {
		up := all[max(len(all)-1-r.Intn(6)/3*r.Intn(4), 0)]
		var txs []api.Tx
		for k := range 1 + r.Intn(3) {
			var spent []api.Point
			for range r.Intn(3) {
				spent = append(spent, spendable[len(spendable)-1-r.Intn(min(len(spendable), 8))])
			}
			x := pay(100*i+k, spent, script(r.Intn(5)), script(r.Intn(12)))
			txs = append(txs, x)
			spendable = append(spendable, at(x, 0), at(x, 1))
		}
		all = append(all, mine(id(up), up.Header.Time+1+uint32(r.Intn(5)), txs...))
	}
	return all
}

// falseFilter is a filter of a block that is more or less untrue.
func falseFilter(r *rand.Rand, m *model.Model, h api.Hash) []byte {
	f, _ := m.Filter(h)
	b, _ := m.Block(h)
	items := filter.Items(b, nil)
	switch r.Intn(5) {
	case 0:
		return empty
	case 1:
		f, _ = filter.Build(h, append(items, script(0), script(1), script(2), script(3)))
	case 2:
		f, _ = filter.Build(h, items)
	case 3:
		f, _ = filter.Build(h, items[:len(items)/2])
	case 4:
		return append(f, 1)
	}
	return f
}

// crowd is a plain world beside one, and random steps for both.
type crowd struct {
	*rig
	plain  *plain
	r      *rand.Rand
	blocks []api.Block
	held   int            // steps
	light  bool           // is it enough that the errors are the same
	done   map[string]int // how often a kind of step had an answer
}

func newCrowd(t *testing.T, seed int64) *crowd {
	r := rand.New(rand.NewSource(seed))
	blocks := forest(r, 10)
	p := chainOf(blocks[0])
	x := &crowd{rig: startOf(t, p, blocks[1:]), plain: newPlain(p, blocks[1:], room), r: r, blocks: blocks, done: map[string]int{}}
	return x
}

// hold does a step in both, and holds all that is told against each other.
func (x *crowd) hold(s api.Step) {
	x.t.Helper()
	x.held++
	got, want := x.Do(s), x.plain.do(s)
	if got != want {
		x.t.Fatalf("step %d, kind %d: %v, not %v", x.held, s.Kind, got, want)
	}
	x.done[fmt.Sprint(s.Kind, " ", int(got))]++
	if x.light {
		return
	}
	other := rig{t: x.t, World: x.World}
	text := fmt.Sprintf("%x %d", x.plain.x.Bytes(), x.plain.x.Synced())
	for _, b := range x.plain.out {
		text += fmt.Sprintf(" %x", b)
	}
	text += fmt.Sprint(x.plain.bodies)
	c := x.plain.c
	if c == nil {
		text += "none"
	} else {
		text += fmt.Sprint(c.Status(), c.Coins(), c.History(), c.Peers(), c.Fetched(), c.Watched(), c.Tree().All())
	}
	if other.all() != text {
		x.t.Fatalf("step %d, kind %d: unlike", x.held, s.Kind)
	}
}

// step is a random one.
func (x *crowd) step() api.Step {
	n := x.r.Intn(4)
	asked := x.plain.asked[n]
	if x.Client() == nil && x.r.Intn(3) == 0 {
		return fuse(x.r.Intn(2))
	}
	switch k := x.r.Intn(100); {
	case k < 8:
		return connect(n)
	case k < 50:
		return serve(n)
	case k < 60 && len(asked) > 0:
		x.plain.asked[n] = asked[1:]
		x.Do(lose(n))
		return inject(n, x.lie(asked[0]))
	case k < 64:
		return inject(n, x.said())
	case k < 70:
		return x.bytes(n)
	case k < 72:
		return drop(n)
	case k < 77:
		return tick(x.r.Intn(7))
	case k < 79:
		return watch(script(x.r.Intn(5)))
	case k < 80:
		return crash(x.r.Intn(300) - 20)
	case k < 84:
		return begin()
	case k < 85:
		return fuse(x.r.Intn(12) - 1)
	case k < 86:
		return limit(len(x.plain.x.Bytes()) + x.r.Intn(2)*room/2 - 1)
	case k < 90:
		return settle(x.r.Intn(5))
	case k < 93:
		return lose(n)
	}
	return api.Step{Kind: x.r.Intn(16), N: x.r.Intn(12) - 2, Bytes: script(x.r.Intn(5)), Message: x.said()}
}

// lie answers what a peer was asked, truly or not.
func (x *crowd) lie(m api.Message) api.Message {
	switch m.Kind {
	case api.MsgGetSums:
		return sumsTold(m.Stop, falseFilter(x.r, x.m, m.Stop))
	case api.MsgGetFilter:
		return filterTold(m.Stop, falseFilter(x.r, x.m, m.Stop))
	case api.MsgGetHeaders:
		return x.some()
	case api.MsgGetData:
		b, _ := x.m.Block(m.Hashes[0])
		b.Txs = b.Txs[:len(b.Txs)-x.r.Intn(2)]
		return bodyTold(b)
	}
	return ping
}

// some is headers of the first blocks, or of random ones.
func (x *crowd) some() api.Message {
	if x.r.Intn(8) == 0 {
		return headersTold(x.blocks[x.r.Intn(len(x.blocks))], x.blocks[x.r.Intn(len(x.blocks))])
	}
	return headersTold(x.blocks[1 : 1+x.r.Intn(len(x.blocks))]...)
}

// said is a message that nobody asked for.
func (x *crowd) said() api.Message {
	h := id(x.blocks[x.r.Intn(len(x.blocks))])
	l := []api.Message{
		{}, version, verack, ping, x.some(), bodyTold(x.blocks[x.r.Intn(len(x.blocks))]),
		{Kind: api.MsgNotFound, Hashes: []api.Hash{h}},
		filterTold(h, falseFilter(x.r, x.m, h)),
		{Kind: api.MsgGetHeaders, Hashes: []api.Hash{h}},
		bodyTold(api.Block{Txs: []api.Tx{{}}}),
	}
	return l[x.r.Intn(len(l))]
}

// bytes is whole frames, or some that are cut or spoilt.
func (x *crowd) bytes(n int) api.Step {
	var b []byte
	for range x.r.Intn(4) {
		one, _ := message.Bytes(x.said())
		b = append(b, one...)
	}
	if len(b) == 0 {
		return feed(n)
	}
	switch x.r.Intn(4) {
	case 0:
		b[x.r.Intn(len(b))] ^= 1
	case 1:
		b = b[:x.r.Intn(len(b))]
	}
	return feed(n, b...)
}

func TestPlainWorld(t *testing.T) {
	total := map[string]int{}
	synced := 0
	for seed := range int64(160) {
		x := newCrowd(t, seed)
		for range 160 {
			x.hold(x.step())
			if c := x.Client(); c != nil && c.Status().State == api.StateSynced && c.Status().Height > 0 {
				synced++
			}
		}
		for k, n := range x.done {
			total[k] += n
		}
	}
	for _, k := range []string{
		"1 0", "1 1", "1 200", "1 210", "2 0", "2 1", "2 200", "2 210", "3 0", "3 1", "3 200", "3 210",
		"4 0", "4 1", "4 200", "4 210", "5 0", "5 200", "6 0", "6 210", "7 0", "7 1", "7 150", "7 210",
		"8 0", "9 0", "9 1", "10 0", "10 1", "11 0", "12 0", "13 0", "13 1", "2 4", "2 150", "9 150",
	} {
		if total[k] == 0 {
			t.Error("no step of kind and answer", k)
		}
	}
	if synced < 500 {
		t.Error("synced", synced)
	}
}
