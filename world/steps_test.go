package world_test

import (
	"bytes"
	"fmt"
	"math"
	"slices"
	"testing"

	"sporran/api"
	"sporran/journal"
	"sporran/world"
)

// P23.1

func TestNewErrors(t *testing.T) {
	bad := chainOf(g)
	bad.Limit = 0
	twin := a1
	twin.Txs = append(slices.Clone(a1.Txs), a2.Txs...)
	odd := chainOf(twin)
	long := make([]api.Block, 201)
	for _, x := range []struct {
		name   string
		p      api.Params
		blocks []api.Block
		room   int
		e      api.Errno
	}{
		{"parameters that can't be", bad, nil, room, api.ErrArg},
		{"too many blocks", chainOf(g), long, room, api.ErrFull},
		{"a first block that can't be", odd, nil, room, api.ErrBlock},
		{"a block that can't be", chainOf(g), []api.Block{twin}, room, api.ErrBlock},
		{"no parent", chainOf(g), []api.Block{a2}, room, api.ErrParent},
		{"one twice", chainOf(g), []api.Block{a1, a1}, room, api.ErrArg},
		{"no parent, and a room below 0", chainOf(g), []api.Block{a2}, -1, api.ErrParent},
		{"too many blocks, and too much room", chainOf(g), long, api.MaxTape + 1, api.ErrFull},
		{"a room below 0", chainOf(g), nil, -1, api.ErrArg},
		{"the least room", chainOf(g), nil, math.MinInt, api.ErrArg},
		{"too much room", chainOf(g), []api.Block{a1}, api.MaxTape + 1, api.ErrArg},
		{"the greatest room", chainOf(g), nil, math.MaxInt, api.ErrArg},
	} {
		w, e := world.New(x.p, x.blocks, x.room)
		want(t, x.name, e, x.e)
		if w != nil {
			t.Error(x.name, "a world")
		}
	}
}

func TestNew(t *testing.T) {
	for _, n := range []int{0, 1, 1000, api.MaxTape} {
		w, e := world.New(chainOf(g), []api.Block{a1, a2}, n)
		if e != api.OK {
			t.Fatal(n, e)
		}
		if s := w.Client().Status(); s.State != api.StateHeaders || s.Cursor != id(g) || s.Best != 0 {
			t.Error(n, s)
		}
		if len(w.Client().Peers()) != 0 || len(w.Client().Watched()) != 0 || len(w.Tape().Bytes()) != 0 || len(w.Bodies()) != 0 {
			t.Error(n, "not new")
		}
		for p := range 8 {
			if len(w.Out(p)) != 0 || w.Do(lose(p)) != api.ErrArg {
				t.Error(n, p, "was sent something")
			}
		}
		want(t, "room", w.Tape().Append(make([]byte, n)), api.OK)
		want(t, "more", w.Tape().Append([]byte{1}), api.ErrFull)
	}
}

// P23.2

// Which steps are refused by their Kind and N alone.
func TestKinds(t *testing.T) {
	peers := []int{api.StepConnect, api.StepServe, api.StepInject, api.StepBytes, api.StepDrop, api.StepWatch, api.StepLose}
	answers := map[int]api.Errno{api.StepServe: api.ErrArg, api.StepInject: api.ErrPeer, api.StepBytes: api.ErrPeer, api.StepDrop: api.ErrPeer, api.StepLose: api.ErrArg}
	for _, kind := range []int{math.MinInt, -1, 0, 1, 2, 3, 4, 5, 6, 7, 8, 9, 10, 11, 12, 13, 14, 99, math.MaxInt} {
		for _, n := range []int{math.MinInt, -1, 0, 1, 7, 8, 300, 301, 1000, 1001, api.MaxTape, api.MaxTape + 1, math.MaxInt} {
			step := api.Step{Kind: kind, N: n, Bytes: mineOne, Message: ping}
			e := api.ErrArg
			switch {
			case slices.Contains(peers, kind) && n >= 0 && n <= 7:
				e = answers[kind]
			case kind == api.StepTick && n >= 0 && n <= 1000, kind == api.StepSettle && n >= 0 && n <= 300:
				e = api.OK
			case kind == api.StepCrash, kind == api.StepFuse && n >= 0, kind == api.StepRoom && n >= 0 && n <= api.MaxTape:
				e = api.OK
			}
			name := fmt.Sprint("kind ", kind, ", ", n)
			want(t, name, start(t, a1).Do(step), e)

			down := start(t, a1)
			down.does(crash(0))
			if slices.Contains(append(peers, api.StepTick, api.StepSettle), kind) {
				e = api.ErrArg
			}
			if kind == api.StepStart {
				e = api.OK
			}
			want(t, name+", down", down.Do(step), e)
		}
	}
}

// A step that is refused changes nothing.
func TestRefused(t *testing.T) {
	r := start(t, a1, a2, a3)
	r.does(watch(mineOne))
	r.hello(0)
	r.hello(3)
	r.serves(0, 2)
	for _, kind := range []int{0, 14, -1} {
		r.fails("no kind", api.Step{Kind: kind, Bytes: mineTwo}, api.ErrArg)
	}
	for _, n := range []int{-1, 8} {
		for _, s := range []api.Step{connect(n), serve(n), drop(n), lose(n), inject(n, ping), feed(n, 1), {Kind: api.StepWatch, N: n, Bytes: mineTwo}} {
			r.fails("no peer", s, api.ErrArg)
		}
	}
	r.fails("ticks", tick(1001), api.ErrArg)
	r.fails("ticks", tick(-1), api.ErrArg)
	r.fails("rounds", settle(301), api.ErrArg)
	r.fails("rounds", settle(-1), api.ErrArg)
	r.fails("start", begin(), api.ErrArg)
	r.fails("fuse", fuse(-1), api.ErrArg)
	r.fails("room", limit(-1), api.ErrArg)
	r.fails("there", connect(3), api.ErrPeer)
	r.fails("not there", drop(4), api.ErrPeer)
	r.fails("not there", inject(4, ping), api.ErrPeer)
	r.fails("not there", feed(4, bytesOf(t, ping)...), api.ErrPeer)
	r.fails("script", watch(nil), api.ErrArg)
	r.fails("script", watch([]byte{0x6a}), api.ErrArg)
	r.fails("no message", serve(4), api.ErrArg)
	r.fails("no message", lose(4), api.ErrArg)
	if r.waiting(3) != 1 {
		t.Error("messages of 3")
	}
	r.does(crash(0))
	for _, s := range []api.Step{connect(1), serve(0), drop(0), lose(0), inject(0, ping), feed(0, 1), watch(mineTwo), tick(1), tick(0), settle(1), settle(0)} {
		r.fails("down", s, api.ErrArg)
	}
}

func TestConnect(t *testing.T) {
	r := start(t)
	r.does(connect(3))
	if !bytes.Equal(r.Out(3), bytesOf(t, api.Message{Kind: api.MsgVersion, Number: 70015, Nonce: 3})) {
		t.Errorf("%x", r.Out(3))
	}
	same(t, "peers", r.Client().Peers(), []int{3})
	r.does(connect(7), connect(0))
	same(t, "peers", r.Client().Peers(), []int{3, 7, 0})
	for _, n := range []int{1, 2, 4, 5, 6} {
		if len(r.Out(n)) > 0 {
			t.Error("out", n)
		}
	}
	r.fails("again", connect(3), api.ErrPeer)
	for _, n := range []int{1, 2, 4, 5, 6} {
		r.does(connect(n))
	}
	r.fails("again", connect(6), api.ErrPeer)
	if r.waiting(3) != 1 || r.waiting(6) != 1 {
		t.Error("messages")
	}
}

// Peers that the world did not connect count, too, for the client.
func TestConnectFull(t *testing.T) {
	r := start(t)
	r.does(connect(0))
	for n := range 7 {
		r.Client().Connect(100 + n)
	}
	r.fails("full", connect(1), api.ErrFull)
	r.does(tick(20), settle(30)) // those have no place here: what is sent to them is let go
	same(t, "peers", r.Client().Peers(), []int{})
}

// What is sent to one that has no place here is let go, and what comes behind is not.
func TestElsewhere(t *testing.T) {
	r := start(t)
	r.Client().Connect(100)
	r.does(connect(0), tick(20))
	same(t, "peers", r.Client().Peers(), []int{})
	if r.waiting(0) != 0 {
		t.Error("messages")
	}
}

func TestDrop(t *testing.T) {
	r := start(t, a1)
	r.does(watch(mineOne))
	r.hello(2)
	r.hello(5)
	out := r.Out(2)
	r.does(drop(2))
	same(t, "peers", r.Client().Peers(), []int{5})
	r.fails("no messages", serve(2), api.ErrArg)
	r.fails("went", drop(2), api.ErrPeer)
	if !bytes.Equal(r.Out(2), out) {
		t.Error("out")
	}
	r.does(connect(2))
	if !bytes.Equal(r.Out(2), append(out, bytesOf(t, api.Message{Kind: api.MsgVersion, Number: 70015, Nonce: 2})...)) || r.waiting(2) != 1 || r.waiting(5) != 1 {
		t.Error("it has no new messages alone")
	}
}

// What the client sends to others as a peer goes comes to them.
func TestDropSends(t *testing.T) {
	r := start(t, a1)
	r.does(watch(mineOne))
	r.hello(0)
	r.serves(0, 2)
	r.hello(1) // its headers are lacking, so that blocks wait
	before := len(r.sent(0))
	r.does(drop(1))
	if l := r.sent(0); len(l) != before {
		t.Error(kinds(l)) // it was asked for sums, ahead of 1
	}
	r.does(connect(1), serve(1), serve(1), serve(0)) // its sum comes, while blocks wait
	before = len(r.sent(0))
	r.does(drop(1))
	if l := r.sent(0); len(l) != before+1 || l[before].Kind != api.MsgGetFilter {
		t.Error(kinds(l))
	}
	if r.waiting(0) != 1 {
		t.Error("messages")
	}
}

func TestWatch(t *testing.T) {
	r := start(t, a1, a2)
	r.does(api.Step{Kind: api.StepWatch, N: 7, Bytes: mineOne}, api.Step{Kind: api.StepWatch, N: 3, Bytes: mineTwo})
	same(t, "watched", r.Client().Watched(), [][]byte{mineOne, mineTwo})
	r.fails("there", watch(mineOne), api.OK)
	for n := range 48 {
		r.does(watch(script(100 + n)))
	}
	r.fails("full", watch(foreign), api.ErrFull)

	r = start(t, a1)
	r.hello(0)
	r.serves(0, 2)
	r.wantAt("nothing watched", api.StateSynced, a1)
	r.does(watch(mineOne)) // sends
	if l := r.sent(0); l[len(l)-1].Kind != api.MsgGetSums || r.waiting(0) != 1 {
		t.Error(kinds(l))
	}
}

// A first message is answered first, and each once.
func TestServe(t *testing.T) {
	r := start(t, a1, a2, a3)
	r.does(watch(mineOne), connect(0), connect(1))
	steps := []struct {
		n    int
		sent []int // what the peer is sent by that
		e    api.Errno
	}{
		{0, []int{api.MsgVerack, api.MsgGetHeaders}, api.OK},
		{0, nil, api.OK},
		{0, []int{api.MsgGetHeaders}, api.OK},
		{0, []int{api.MsgGetSums}, api.OK},
		{0, []int{api.MsgGetFilter}, api.OK},
		{0, []int{api.MsgGetSums}, api.OK},
		{0, []int{api.MsgGetFilter}, api.OK},
		{0, []int{api.MsgGetData}, api.OK},
		{0, []int{api.MsgGetSums}, api.OK},
		{0, []int{api.MsgGetFilter}, api.OK},
		{0, []int{api.MsgGetData}, api.OK},
		{0, nil, api.OK},
		{0, nil, api.ErrArg},
		{1, []int{api.MsgVerack, api.MsgGetHeaders}, api.OK},
		{1, nil, api.OK},
		{1, nil, api.OK},
		{1, nil, api.ErrArg},
	}
	for i, x := range steps {
		before := len(r.sent(x.n))
		want(t, fmt.Sprint("step ", i), r.Do(serve(x.n)), x.e)
		same(t, fmt.Sprint("step ", i), kinds(r.sent(x.n)[before:]), x.sent)
	}
	r.wantAt("served", api.StateSynced, a3)
	wantBodies(t, "bodies", r.Bodies(), a2, a3)
}

// The peer goes by the first of two answers: the other one finds it gone.
func TestServeGone(t *testing.T) {
	r := start(t, a1)
	r.does(connect(0), connect(1), inject(1, version))
	want(t, "version once more", r.Do(serve(1)), api.ErrPeer)
	same(t, "peers", r.Client().Peers(), []int{0})
	if r.waiting(1) != 0 || r.waiting(0) != 1 {
		t.Error("messages")
	}
}

// The peer goes by the last answer: that is no error.
func TestServeGoneAtTheEnd(t *testing.T) {
	r := start(t, a1)
	r.does(connect(1), inject(1, verack), serve(1))
	same(t, "peers", r.Client().Peers(), []int{})
	if r.waiting(1) != 0 {
		t.Error("messages")
	}
}

// A block that goes into no message: the error of message.Bytes. The message has been answered.
func TestServeLong(t *testing.T) {
	big := make([]api.Tx, 0, 21)
	for n := range 21 {
		big = append(big, pay(100+n, nil, bytes.Repeat([]byte{0x51}, api.MaxScript)))
	}
	long := mine(id(g), 1010, append(big, pay(1, nil, mineOne))...)
	r := start(t, long)
	r.does(watch(mineOne))
	r.hello(0)
	r.serves(0, 4)
	if l := r.sent(0); l[len(l)-1].Kind != api.MsgGetData {
		t.Fatal(kinds(l))
	}
	r.fails("long", serve(0), api.ErrLong)
	r.fails("no messages", serve(0), api.ErrArg)
	r.does(tick(19))
	same(t, "peers", r.Client().Peers(), []int{0})
	r.does(tick(1))
	same(t, "peers", r.Client().Peers(), []int{})
}

// A client that halts as it is fed, and one that has.
func TestServeHalts(t *testing.T) {
	r := start(t, a1, a2)
	r.does(watch(mineOne))
	r.hello(0)
	r.serves(0, 2)
	r.hello(1)
	r.serves(1, 2) // headers, a sum
	r.serves(0, 1)
	r.serves(1, 2) // the first block's filter, a sum
	r.serves(0, 1)
	r.serves(1, 1) // the second block's filter
	if l := r.sent(0); l[len(l)-1].Kind != api.MsgGetData {
		t.Fatal(kinds(l))
	}
	r.does(fuse(0))
	out := r.Out(0)
	want(t, "body", r.Do(serve(0)), api.ErrDead)
	r.wantAt("halted", api.StateHalted, a1)
	wantBodies(t, "bodies", r.Bodies(), a2)
	r.fails("no messages", serve(0), api.ErrArg)
	r.fails("halted", connect(4), api.ErrHalt)
	r.fails("halted", drop(0), api.ErrHalt)
	r.fails("halted", inject(0, ping), api.ErrHalt)
	r.fails("halted", feed(0), api.ErrHalt)
	r.fails("halted", tick(1), api.ErrHalt)
	r.fails("no ticks", tick(0), api.OK)
	r.fails("halted", watch(mineTwo), api.ErrHalt)
	r.fails("halted", settle(3), api.OK)
	r.fails("it runs", begin(), api.ErrArg)
	if !bytes.Equal(r.Out(0), out) {
		t.Error("out")
	}
}

// The messages of a client's peers stay as it halts, since it tells nobody.
func TestServeHalted(t *testing.T) {
	r := start(t, a1)
	r.does(connect(0), connect(1), connect(2), fuse(0))
	want(t, "watch", r.Do(watch(mineOne)), api.ErrDead)
	r.fails("the first answer", serve(0), api.ErrHalt)
	r.fails("answered", serve(0), api.ErrArg)
	r.fails("gone", drop(1), api.ErrHalt)
	if r.waiting(1) != 1 {
		t.Error("1 has no message")
	}
	r.does(settle(1))
	if r.waiting(2) != 0 {
		t.Error("2 has a message")
	}
}

func TestLose(t *testing.T) {
	r := start(t, a1)
	r.fails("none", lose(0), api.ErrArg)
	r.does(connect(0), serve(0), lose(0)) // the verack
	out := r.all()
	r.does(lose(0)) // what asks for headers
	same(t, "lost", r.all(), out)
	r.fails("none", lose(0), api.ErrArg)
	r.fails("none", serve(0), api.ErrArg)
	r.does(inject(0, ping), inject(0, ping), lose(0), serve(0))
	r.fails("none", serve(0), api.ErrArg)
	r.does(tick(19))
	same(t, "peers", r.Client().Peers(), []int{0})
	r.does(tick(1))
	same(t, "peers", r.Client().Peers(), []int{})
}

func TestInject(t *testing.T) {
	r := start(t, a1, a2)
	long := api.Message{Kind: api.MsgFilter, Bytes: make([]byte, api.MaxPayload)}
	wide := bodyTold(api.Block{Txs: slices.Repeat([]api.Tx{pay(1, nil, make([]byte, api.MaxScript))}, 20)})
	r.does(connect(1))
	for _, n := range []int{0, 1} { // one of these is not there, which is told behind
		r.fails("no kind", inject(n, api.Message{}), api.ErrArg)
		r.fails("no kind", inject(n, api.Message{Kind: 14}), api.ErrArg)
		r.fails("too long", inject(n, long), api.ErrArg)
		r.fails("a transaction that can't be", inject(n, bodyTold(api.Block{Txs: []api.Tx{{}}})), api.ErrArg)
		r.fails("a block too long", inject(n, wide), api.ErrLong)
	}
	r.fails("not there", inject(0, verack), api.ErrPeer)

	r.does(inject(1, version), inject(1, verack), inject(1, ping))
	same(t, "sent", kinds(r.sent(1)), []int{api.MsgVersion, api.MsgVerack, api.MsgGetHeaders, api.MsgPong})
	if l := r.sent(1); l[3].Nonce != ping.Nonce {
		t.Error(l[3])
	}
	odd := headersTold(a1)
	odd.Bytes, odd.Nonce, odd.Hashes = make([]byte, 300000), 9, make([]api.Hash, 5000) // fields that its Kind does not name
	r.does(inject(1, odd))
	if _, ok := r.Client().Tree().Header(id(a1)); !ok {
		t.Error("the header was not taken")
	}
	r.does(inject(1, api.Message{Kind: api.MsgVersion})) // out of turn
	same(t, "peers", r.Client().Peers(), []int{})
	if r.waiting(1) != 0 {
		t.Error("messages")
	}
}

// An answer that a peer says unasked is none of the message that it has.
func TestInjectAnswers(t *testing.T) {
	r := start(t, a1, a2)
	r.hello(0)
	r.does(inject(0, headersTold(a1))) // what it has is not answered, in the world
	if r.waiting(0) != 2 {
		t.Error("messages")
	}
}

func TestBytes(t *testing.T) {
	r := start(t, a1, a2)
	r.does(connect(0))
	b := bytesOf(t, version, verack, ping)
	r.does(feed(0), feed(0, b[:30]...), feed(0, b[30:31]...))
	same(t, "sent", kinds(r.sent(0)), []int{api.MsgVersion})
	r.does(feed(0, b[31:]...))
	same(t, "sent", kinds(r.sent(0)), []int{api.MsgVersion, api.MsgVerack, api.MsgPong, api.MsgGetHeaders})
	if r.waiting(0) != 4 {
		t.Error("messages")
	}
	r.does(connect(1), feed(0, b[:30]...), inject(0, ping)) // its bytes go into the frame that began
	same(t, "peers", r.Client().Peers(), []int{0, 1})
	r.does(inject(0, ping), inject(0, ping))
	same(t, "peers", r.Client().Peers(), []int{1})
	r.does(feed(1, 1, 2, 3), feed(1, make([]byte, 24)...))
	same(t, "peers", r.Client().Peers(), []int{})
	if r.waiting(1) != 0 {
		t.Error("messages")
	}
	r.fails("went", feed(1), api.ErrPeer)
}

func TestTick(t *testing.T) {
	r := start(t, a1)
	r.does(connect(0), tick(0), tick(19))
	same(t, "peers", r.Client().Peers(), []int{0})
	r.does(connect(1), tick(1))
	same(t, "peers", r.Client().Peers(), []int{1})
	if r.waiting(0) != 0 || r.waiting(1) != 1 {
		t.Error("messages")
	}
	r.does(tick(18))
	same(t, "peers", r.Client().Peers(), []int{1})
	r.does(tick(1000))
	same(t, "peers", r.Client().Peers(), []int{})
}

// What each of several ticks sends comes to the peers; of a tick that halts the client the error is told.
func TestTickSends(t *testing.T) {
	r := start(t, a1)
	r.hello(0)
	r.serves(0, 2)
	before := len(r.sent(0))
	r.does(tick(9))
	same(t, "nine", kinds(r.sent(0)[before:]), nil)
	r.does(tick(7))
	same(t, "sixteen", kinds(r.sent(0)[before:]), []int{api.MsgGetHeaders})
	r.does(serve(0), tick(4))
	same(t, "twenty", kinds(r.sent(0)[before:]), []int{api.MsgGetHeaders, api.MsgGetHeaders})

	r = start(t, a1, a2)
	r.hello(0)
	r.serves(0, 1)
	r.does(tick(5))
	r.hello(1) // blocks wait, as 0 and 1 were asked for headers
	r.does(inject(0, headersTold()), tick(15), inject(0, headersTold()), tick(4), fuse(0))
	want(t, "1 is late, so that blocks pass", r.Do(tick(1000)), api.ErrDead)
	r.wantAt("halted", api.StateHalted, g)
	r.fails("halted", tick(1), api.ErrHalt)
}

// In a round each peer answers what it has as its turn comes: not what comes within that, but what came by peers ahead.
func TestSettle(t *testing.T) {
	r := start(t)
	r.does(connect(0), connect(5), settle(0))
	r.fails("no rounds", settle(0), api.OK)
	r.does(settle(1))
	same(t, "one round", kinds(r.sent(0)), []int{api.MsgVersion, api.MsgVerack, api.MsgGetHeaders})
	r.wantAt("one round", api.StateHeaders, g)
	r.does(settle(1))
	r.wantAt("two rounds", api.StateSynced, g)

	r = start(t, a1)
	r.does(watch(mineOne), connect(1), connect(0), settle(3))
	if l := r.sent(0); l[len(l)-1].Kind != api.MsgGetSums { // once 1 has told its headers, behind 0's turn
		t.Error(kinds(l))
	}
	r.does(settle(1))
	if l := r.sent(0); l[len(l)-1].Kind != api.MsgGetSums {
		t.Error(kinds(l))
	}
	r.wantAt("four rounds", api.StateSynced, a1)
}

// Peers come in the order of their numbers, not in that in which they came.
func TestSettleOrder(t *testing.T) {
	r := start(t, a1, a2)
	r.does(watch(mineOne), connect(6), connect(2), settle(15))
	r.wantAt("settled", api.StateSynced, a2, coin(payA2, 0, 2))
	for n, b := range map[int]api.Block{6: a1, 2: a2} { // of a1, 6 votes in the round in which 2 tells that it has no more headers; of a2, 2 votes first
		same(t, fmt.Sprint(n), asked(r.sent(n), api.MsgGetFilter), []api.Hash{id(b)})
	}
}

// asked is the Stops of messages of a kind.
func asked(l []api.Message, kind int) []api.Hash {
	var stops []api.Hash
	for _, m := range l {
		if m.Kind == kind {
			stops = append(stops, m.Stop)
		}
	}
	return stops
}

// A round ends with a tick.
func TestSettleTicks(t *testing.T) {
	r := start(t, a1)
	r.does(connect(0), lose(0), settle(19))
	same(t, "peers", r.Client().Peers(), []int{0})
	r.does(settle(1))
	same(t, "peers", r.Client().Peers(), []int{})
	r.does(settle(300))
}

// Errors play no part in rounds: neither in what else is answered, nor in whether the client ticks.
func TestSettleErrors(t *testing.T) {
	r := start(t, a1)
	r.does(connect(0), connect(1), connect(2), lose(2), inject(1, version)) // 1 will be gone by its first answer
	r.does(settle(21))
	same(t, "peers", r.Client().Peers(), []int{0})
	r.wantAt("settled", api.StateSynced, a1)

	r = start(t, a1, a2)
	r.does(connect(0), fuse(2), settle(30)) // the headers' batch, and no other one
	r.wantAt("halted", api.StateHalted, g)
}

func TestCrash(t *testing.T) {
	for _, x := range []struct {
		fuse, keep int
		watched    bool
	}{
		{0, 1 << 20, false}, // nothing is appended
		{1, 0, false},
		{1, -1, false},
		{1, math.MinInt, false},
		{1, 10, false},
		{1, 1 << 20, true}, // all that was appended stays
		{1, math.MaxInt, true},
		{2, 0, true}, // synced
	} {
		name := fmt.Sprint(x)
		r := start(t, a1)
		r.does(watch(mineOne), connect(2), fuse(x.fuse))
		e := api.ErrDead
		if x.fuse == 2 {
			e = api.OK
		}
		want(t, name, r.Do(watch(mineTwo)), e)
		bodies := r.Bodies()
		out := r.Out(2)
		r.does(crash(x.keep))
		if r.Client() != nil {
			t.Error(name, "runs")
		}
		r.does(begin(), watch(foreign)) // the fuse is gone
		watched := [][]byte{mineOne, foreign}
		if x.watched {
			watched = [][]byte{mineOne, mineTwo, foreign}
		}
		same(t, name, r.Client().Watched(), watched)
		same(t, name, r.Client().Peers(), []int{})
		if r.waiting(2) != 0 || !bytes.Equal(r.Out(2), out) || len(bodies) != len(r.Bodies()) {
			t.Error(name, "messages, out, bodies")
		}
	}
}

// One that does not run crashes, too: the tape loses what was not synced, and its fuse.
func TestCrashTwice(t *testing.T) {
	r := start(t, a1)
	r.does(crash(0), fuse(0), crash(3))
	want(t, "append", r.Tape().Append([]byte("abcd")), api.OK)
	r.does(crash(3))
	same(t, "tape", r.Tape().Bytes(), []byte("abc"))
	if r.Client() != nil {
		t.Error("runs")
	}
}

// All messages are gone, and Bodies and what was sent is not.
func TestCrashMessages(t *testing.T) {
	r := start(t, a1, a2)
	for n := range 8 {
		r.does(connect(n))
	}
	r.does(inject(4, version), inject(4, verack), inject(4, bodyTold(a2)))
	var outs [8][]byte
	for n := range 8 {
		outs[n] = r.Out(n)
	}
	r.does(crash(0))
	for n := range 8 {
		if !bytes.Equal(r.Out(n), outs[n]) || len(outs[n]) == 0 {
			t.Error("out", n)
		}
	}
	wantBodies(t, "bodies", r.Bodies(), a2)
	r.does(begin())
	for n := range 8 {
		r.fails("no messages", serve(n), api.ErrArg)
		r.does(connect(n))
		hello := bytesOf(t, api.Message{Kind: api.MsgVersion, Number: 70015, Nonce: uint64(n)})
		if !bytes.Equal(r.Out(n), append(outs[n], hello...)) || r.waiting(n) != 1 {
			t.Error("out, messages", n)
		}
	}
	wantBodies(t, "bodies", r.Bodies(), a2)
}

func TestStart(t *testing.T) {
	r := start(t, a1, a2, a3)
	r.does(watch(mineOne), connect(0), settle(15))
	r.wantAt("ahead", api.StateSynced, a3)
	old := r.Client()
	r.fails("it runs", begin(), api.ErrArg)
	r.does(crash(0), begin())
	if r.Client() == old || r.Client() == nil {
		t.Error("the old client")
	}
	r.wantAt("behind", api.StateHeaders, a3)
	same(t, "history", r.Client().History(), old.History())
	r.fails("it runs", begin(), api.ErrArg)
	r.does(connect(0), settle(5))
	r.wantAt("behind", api.StateSynced, a3)
}

// What client.Open answers is told, and it does not run.
func TestStartErrors(t *testing.T) {
	r := start(t, a1)
	r.does(watch(mineOne), crash(0))
	want(t, "append", r.Tape().Append([]byte("torn")), api.OK)
	r.does(fuse(0))
	r.fails("a torn frame that can't be cut", begin(), api.ErrDead)
	r.fails("it does not run", tick(0), api.ErrArg)
	r.fails("once more", begin(), api.ErrDead)
	r.does(fuse(1), begin())
	same(t, "watched", r.Client().Watched(), [][]byte{mineOne})

	r.does(crash(0))
	j, e := journal.Open(r.Tape())
	want(t, "journal", e, api.OK)
	want(t, "a key of another kind", j.Commit(api.Batch{Puts: []api.Pair{{Key: "x"}}}), api.OK)
	r.fails("a journal that can't be read", begin(), api.ErrLog)
	if r.Client() != nil {
		t.Error("it runs")
	}
}

func TestFuse(t *testing.T) {
	r := start(t, a1)
	r.does(fuse(3), watch(mineOne))
	want(t, "halts", r.Do(watch(mineTwo)), api.ErrDead)
	r.fails("below 0", fuse(-1), api.ErrArg)
	r.does(crash(0))
	r.fails("below 0", fuse(math.MinInt), api.ErrArg)
	r.does(fuse(2), begin(), watch(mineTwo))
	want(t, "halts", r.Do(watch(foreign)), api.ErrDead)
	same(t, "watched", r.Client().Watched(), [][]byte{mineOne, mineTwo})
}

func TestRoom(t *testing.T) {
	r := start(t, a1)
	r.does(watch(mineOne))
	n := len(r.Tape().Bytes())
	r.fails("below 0", limit(-1), api.ErrArg)
	r.fails("too much", limit(api.MaxTape+1), api.ErrArg)
	r.does(limit(n))
	want(t, "full", r.Do(watch(mineTwo)), api.ErrFull)
	r.wantAt("full", api.StateHalted, g)
	r.does(crash(0), limit(0), begin(), limit(2*n))
	want(t, "as long as the first one", r.Do(watch(mineTwo)), api.OK)
	r.does(limit(api.MaxTape), watch(foreign))
	same(t, "watched", r.Client().Watched(), [][]byte{mineOne, mineTwo, foreign})
}
