package client_test

import (
	"math"
	"slices"
	"testing"

	"sporran/api"
	"sporran/client"
	"sporran/message"
	"sporran/tape"
)

func TestPlainObjects(t *testing.T) {
	for _, c := range []*client.Client{nil, {}} {
		for name, call := range map[string]func() ([]api.Sent, api.Errno){
			"Watch":   func() ([]api.Sent, api.Errno) { return c.Watch(nil) },
			"Connect": func() ([]api.Sent, api.Errno) { return c.Connect(-1) },
			"Gone":    func() ([]api.Sent, api.Errno) { return c.Gone(1) },
			"Feed":    func() ([]api.Sent, api.Errno) { return c.Feed(1, nil) },
			"Tick":    func() ([]api.Sent, api.Errno) { return c.Tick() },
		} {
			l, e := call()
			want(t, name, e, api.ErrNil)
			if len(l) > 0 {
				t.Error(name, l)
			}
		}
		if c.Status() != (api.Status{}) || c.Coins() != nil || c.History() != nil || c.Peers() != nil || c.Fetched() != nil || c.Tree() != nil || c.Watched() != nil {
			t.Error("a client that no call made has something")
		}
	}
}

// A copy of a client's value is that client.
func TestCopy(t *testing.T) {
	r := start(t)
	twin := *r.c
	r.connect(1)
	_, e := twin.Connect(1)
	want(t, "Connect of the copy", e, api.ErrPeer)
}

// wantError asks whether a call answers an error, sends nothing and changes nothing.
func (r *rig) wantError(name string, want api.Errno, call func() ([]api.Sent, api.Errno)) {
	r.t.Helper()
	before, bytes := state(r.c), len(r.tape.Bytes())
	l, e := call()
	if e != want || len(l) > 0 {
		r.t.Errorf("%s: %v and %d sent, not %v", name, e, len(l), want)
	}
	if state(r.c) != before || len(r.tape.Bytes()) != bytes {
		r.t.Errorf("%s: something changed", name)
	}
}

func TestConnect(t *testing.T) {
	r := start(t, a1)
	connect := func(n int) func() ([]api.Sent, api.Errno) {
		return func() ([]api.Sent, api.Errno) { return r.c.Connect(n) }
	}
	for _, n := range []int{-1, 1001, math.MinInt, math.MaxInt} {
		r.wantError("out of range", api.ErrArg, connect(n))
	}
	peers := []int{1000, 0, 7, 3, 5, 2, 6}
	for _, n := range peers {
		l, e := r.c.Connect(n)
		hello, _ := message.Bytes(api.Message{Kind: api.MsgVersion, Number: 70015, Nonce: uint64(n)})
		want(t, "Connect", e, api.OK)
		same(t, "hello", l, []api.Sent{{Peer: n, Bytes: hello}})
		r.wantError("there", api.ErrPeer, connect(n))
	}
	same(t, "peers", r.c.Peers(), peers)
	r.connect(9)
	r.wantError("nine", api.ErrFull, connect(8))
	r.wantError("there, and nine", api.ErrPeer, connect(7))
	r.wantError("out of range, and nine", api.ErrArg, connect(-1))
	r.gone(7)
	r.wants("room again", r.connect(7), "7 version 70015 7")
	same(t, "at the end", r.c.Peers(), []int{1000, 0, 3, 5, 2, 6, 9, 7})
}

func TestGone(t *testing.T) {
	r := start(t, a1)
	gone := func(n int) func() ([]api.Sent, api.Errno) {
		return func() ([]api.Sent, api.Errno) { return r.c.Gone(n) }
	}
	r.wantError("none", api.ErrPeer, gone(1))
	r.connect(1)
	r.connect(2)
	r.wantError("another one", api.ErrPeer, gone(-1))
	r.wants("gone", r.gone(1), "")
	same(t, "peers", r.c.Peers(), []int{2})
	r.wantError("gone", api.ErrPeer, gone(1))
}

// The work goes on behind a peer that was waited for.
func TestGoneWork(t *testing.T) {
	r := start(t, a1)
	r.meet(1, 2)
	r.say(1, r.sumsOf(a1))
	r.wants("2 has not voted", r.gone(2), "1 filter 1 a1")
}

func TestFeedErrors(t *testing.T) {
	r := start(t, a1)
	feed := func(n int, b []byte) func() ([]api.Sent, api.Errno) {
		return func() ([]api.Sent, api.Errno) { return r.c.Feed(n, b) }
	}
	r.wantError("none", api.ErrPeer, feed(1, nil))
	r.connect(1)
	r.wantError("another one", api.ErrPeer, feed(2, []byte{1}))
	r.wants("nothing", r.heard(r.c.Feed(1, nil)), "")
	r.wants("a fault", r.heard(r.c.Feed(1, make([]byte, 24))), "1 goes")
	same(t, "peers", len(r.c.Peers()), 0)
	r.wantError("gone", api.ErrPeer, feed(1, nil))
	r.connect(1)
	r.wants("once more: all anew", r.say(1, version, verack), "1 verack; 1 headers g")
}

// What a session gives for its peer is one Sent; with a fault it is none.
func TestFeedBack(t *testing.T) {
	r := start(t, a1)
	r.connect(1)
	ping := func(n uint64) api.Message { return api.Message{Kind: api.MsgPing, Nonce: n} }
	r.wants("all of it", r.say(1, version, verack, ping(4), ping(5)), "1 verack pong 4 pong 5; 1 headers g")
	r.wants("back ahead of what follows", r.say(1, ping(6), headersTold(a1), ping(7)), "1 pong 6 pong 7; 1 headers a1 g")
	r.wants("with a fault", r.say(1, ping(8), version, ping(9)), "1 goes")
	r.connect(2)
	r.wants("ahead of a hello", r.say(2, ping(1)), "2 goes")
	r.wants("others are let go", r.connect(3)+r.say(3, version, verack, api.Message{Kind: api.MsgPong}, bodyTold(a1)), "3 version 70015 33 verack; 3 headers a1 g")
}

func TestHelloDeadline(t *testing.T) {
	r := start(t, a1)
	r.connect(1)
	r.tick(3)
	r.connect(2)
	r.say(2, version)
	r.connect(3)
	r.wants("1 has a tick left", r.tick(16), "")
	r.wants("1", r.tick(1), "1 goes")
	r.say(3, version, verack)
	r.wants("2 has a tick left", r.tick(2), "")
	r.wants("2", r.tick(1), "2 goes")
	same(t, "peers", r.c.Peers(), []int{3})
}

// Example 6: a peer does not answer for Deadline ticks: it goes.
func TestLate(t *testing.T) {
	r := start(t, a1)
	r.tick(5)
	r.connect(1)
	r.connect(2)
	r.say(1, version, verack)
	r.tick(7)
	r.say(2, version, verack)
	r.wants("a tick left", r.tick(12), "")
	r.wants("1", r.tick(1), "1 goes")
	r.wants("a tick left", r.tick(6), "")
	r.wants("2", r.tick(1), "2 goes")
	r.connect(3)
	r.connect(4)
	r.wants("both at once, in their order", r.tick(20), "3 goes; 4 goes")
}

// A request that comes later has its own time; the work goes on behind a peer that is late.
func TestLateWork(t *testing.T) {
	r := start(t, a1)
	r.tick(1)
	r.connect(1)
	r.say(1, version, verack)
	r.tick(18)
	r.wants("just in time", r.say(1, headersTold(a1)), "1 headers a1 g")
	r.tick(5)
	r.connect(2)
	r.say(2, version, verack)
	r.say(2, none)
	r.wants("2 waits for 1", r.tick(6), "2 headers a1 g")
	r.say(2, none)
	r.wants("2 waits for 1 still", r.tick(8), "")
	r.wants("1 is late", r.tick(1), "1 goes; 2 sums 1 a1")
}

// At each tenth tick no peer's headers are done.
func TestTenthTick(t *testing.T) {
	r := start(t, a1)
	r.tick(4)
	r.meet(2, 1)
	r.connect(3)
	r.wantAt("done", api.StateBlocks, g)
	r.say(1, r.sumsOf(a1))
	r.wants("the ninth", r.tick(5), "")
	r.wantAt("the ninth", api.StateBlocks, g)
	r.wants("the tenth: 2 owes a sum", r.tick(1), "1 headers a1 g")
	r.wantAt("the tenth", api.StateHeaders, g)
	r.wants("2's sum", r.say(2, r.sumsOf(a1)), "2 headers a1 g")
	r.wants("1 again", r.say(1, none), "")
	r.wants("2 again", r.say(2, none), "1 filter 1 a1")
	r.wantAt("done again", api.StateBlocks, g)
	r.say(1, filterTold(a1, r.filterOf(a1)))
	r.wantAt("synced", api.StateSynced, a1)
	r.wants("the nineteenth", r.tick(9), "")
	r.wants("the twentieth", r.tick(1), "2 headers a1 g; 1 headers a1 g")
	r.wants("still asked", r.tick(3), "")
	r.wants("3 goes", r.tick(1), "3 goes")
	r.wants("the thirtieth", r.tick(6), "")
	r.wants("2 answers what it was asked", r.say(2, none), "")
}

func TestWatchErrors(t *testing.T) {
	r := plainStart(t, a1)
	watch := func(s []byte) func() ([]api.Sent, api.Errno) {
		return func() ([]api.Sent, api.Errno) { return r.c.Watch(s) }
	}
	bad := func() {
		r.wantError("none", api.ErrArg, watch(nil))
		r.wantError("empty", api.ErrArg, watch([]byte{}))
		r.wantError("data", api.ErrArg, watch([]byte{0x6a, 1}))
		r.wantError("long", api.ErrArg, watch(make([]byte, api.MaxScript+1)))
	}
	bad()
	r.watch(make([]byte, api.MaxScript))
	all := [][]byte{make([]byte, api.MaxScript)}
	for n := range api.MaxWatch - 1 {
		all = append(all, script(n))
		r.watch(script(n))
	}
	r.wantError("one above", api.ErrFull, watch(foreign[:4]))
	r.wants("one that is there", r.watch(script(48)), "")
	bad()
	same(t, "watched", r.c.Watched(), all)
	var batch []api.Batch
	for n, s := range all {
		batch = append(batch, puts(scriptPair(n, s), cursorPair(g)))
	}
	r.wantBatches("all", 0, batch...)
	r.open()
	same(t, "opened", r.c.Watched(), all)
	r.wantError("one above, opened", api.ErrFull, watch(foreign[:4]))
}

func TestStatus(t *testing.T) {
	r := start(t, a1, a2, a3)
	same(t, "begins", r.c.Status(), api.Status{State: api.StateHeaders, Cursor: id(g)})
	r.connect(1)
	same(t, "connected", r.c.Status(), api.Status{State: api.StateHeaders, Cursor: id(g)})
	r.say(1, version, verack)
	r.say(1, headersTold(a1, a2))
	same(t, "headers", r.c.Status(), api.Status{State: api.StateHeaders, Cursor: id(g), Best: 2})
	r.say(1, none)
	same(t, "blocks", r.c.Status(), api.Status{State: api.StateBlocks, Cursor: id(g), Best: 2})
	r.settle()
	same(t, "synced", r.c.Status(), api.Status{State: api.StateSynced, Cursor: id(a2), Height: 2, Best: 2, Balance: 5})
	r.connect(2)
	same(t, "one that is not ready", r.c.Status().State, api.StateSynced)
	r.say(2, version, verack)
	same(t, "one whose headers are not done", r.c.Status().State, api.StateHeaders)
	r.gone(2)
	same(t, "it is gone", r.c.Status().State, api.StateSynced)
	r.gone(1)
	same(t, "all are gone", r.c.Status(), api.Status{State: api.StateHeaders, Cursor: id(a2), Height: 2, Best: 2, Balance: 5})
}

// hoard is a block whose outputs have more together than a balance may.
func hoard() (api.Block, []api.Coin) {
	x := pay(1, nil, mineOne, mineOne)
	x.Out[0].Value = api.MaxMoney
	return mine(id(g), 1010, x), []api.Coin{coin(x, 0, 1), coin(x, 1, 1)}
}

func TestOverflow(t *testing.T) {
	b, coins := hoard()
	r := start(t, b)
	r.meet(1)
	r.settle()
	same(t, "too much", r.c.Status(), api.Status{State: api.StateSynced, Cursor: id(b), Height: 1, Best: 1, Overflow: true})
	same(t, "coins", r.c.Coins(), coins)
	entries := []api.Entry{{ID: coins[0].Point.ID, Height: 1, Got: api.MaxMoney}}
	same(t, "history", r.c.History(), entries)
	r.open()
	same(t, "opened", r.c.Status(), api.Status{State: api.StateHeaders, Cursor: id(b), Height: 1, Best: 1, Overflow: true})
	same(t, "coins, opened", r.c.Coins(), coins)
	same(t, "history, opened", r.c.History(), entries)
}

// The tree is the client's own.
func TestTree(t *testing.T) {
	r := start(t, a1)
	own := r.c.Tree()
	r.meet(1)
	if own != r.c.Tree() || own.Tip() != id(a1) {
		t.Error("not the tree itself")
	}
}

func TestMemory(t *testing.T) {
	r := start(t, a1, a2, a3)
	s := append(make([]byte, 0, 20), script(5)...)
	r.watch(s)
	if rest := s[:20]; slices.ContainsFunc(rest[5:], func(b byte) bool { return b != 0 }) {
		t.Error("Watch changed the room behind a script")
	}
	clear(s)
	same(t, "watched", r.c.Watched(), [][]byte{mineOne, mineTwo, script(5)})
	r.connect(1)
	b, _ := message.Bytes(version)
	b2, _ := message.Bytes(verack)
	b = append(b, b2...)
	r.heard(r.c.Feed(1, b[:30]))
	kept := slices.Clone(b)
	l, _ := r.c.Feed(1, b[30:])
	same(t, "Feed", b, kept)
	clear(b)
	for _, x := range l {
		clear(x.Bytes)
	}
	clear(l)
	r.say(1, headersTold(a1, a2, a3))
	r.serve(1)
	r.settle()
	before := state(r.c)
	for range 2 {
		for _, c := range r.c.Coins() {
			clear(c.Out.Script)
		}
		for _, s := range r.c.Watched() {
			clear(s)
		}
		wipe(r.c.Fetched())
		wipe(r.c.Peers())
		wipe(r.c.History())
		wipe(r.c.Coins())
		wipe(r.c.Watched())
	}
	same(t, "behind all that", state(r.c), before)
	if len(r.c.Fetched()) != 2 || len(r.c.History()) != 2 {
		t.Error("too little to tell")
	}
}

// wipe clears a list, and the room behind its end.
func wipe[T any](l []T) {
	clear(l[:cap(l)])
}

// An answer of a call is not changed by later ones.
func TestAnswersStay(t *testing.T) {
	r := start(t, a1, a2, a3)
	r.connect(1)
	first, _ := r.c.Feed(1, append(bytesOf(t, version), bytesOf(t, verack)...))
	kept := slices.Clone(first)
	var texts [][]byte
	for _, x := range first {
		texts = append(texts, slices.Clone(x.Bytes))
	}
	r.say(1, headersTold(a1, a2, a3))
	r.say(1, none)
	fetched, peers := r.c.Fetched(), r.c.Peers()
	r.settle()
	r.gone(1)
	for i, x := range first {
		if x.Peer != kept[i].Peer || string(x.Bytes) != string(texts[i]) {
			t.Error("what was sent changed")
		}
	}
	same(t, "fetched", len(fetched), 0)
	same(t, "peers", peers, []int{1})
}

func bytesOf(t testing.TB, m api.Message) []byte {
	t.Helper()
	b, e := message.Bytes(m)
	if e != api.OK {
		t.Fatal(e)
	}
	return b
}

// The client keeps neither its parameters nor a tape's copy: the tape is the one that it was handed.
func TestParams(t *testing.T) {
	p := chainOf(g)
	p.Checks = []api.Check{{Height: 1, ID: id(a1)}}
	x, _ := tape.New(room)
	c, e := client.Open(p, x)
	want(t, "Open", e, api.OK)
	p.Checks[0].ID = api.Hash{}
	if e := c.Tree().Can(a1.Header, math.MaxUint32); e != api.OK {
		t.Error("Open kept its parameters", e)
	}
	c.Watch(mineOne)
	if x.Synced() == 0 {
		t.Error("nothing on the tape")
	}
}
