package world_test

import (
	"bytes"
	"fmt"
	"math/rand"
	"slices"
	"testing"

	"sporran/api"
	"sporran/audit"
	"sporran/client"
	"sporran/tape"
)

// The promises of the whole, in random worlds.

// fair is a world whose peer 0 only serves, and is ready as long as anybody else is there; what a peer was sent is told by what it lost.
type fair struct {
	*crowd
	truth bool // are all peers honest, but for what headers they tell
}

func newFair(t *testing.T, seed int64, truth bool) *fair {
	x := &fair{newCrowd(t, seed), truth}
	x.light = true
	return x
}

// greet has peer 0 come, and serve until it has nothing.
func (x *fair) greet() {
	x.t.Helper()
	x.hold(connect(0))
	x.serveAll(0)
}

func (x *fair) serveAll(n int) {
	x.t.Helper()
	for len(x.plain.asked[n]) > 0 {
		x.hold(serve(n))
	}
}

// turn is a random step.
func (x *fair) turn() {
	x.t.Helper()
	n := 1 + x.r.Intn(4)
	asked := x.plain.asked[n]
	switch k := x.r.Intn(100); {
	case k < 10:
		x.hold(connect(n))
	case k < 45:
		x.hold(serve(x.r.Intn(5)))
	case k < 65 && len(asked) > 0 && x.honest(asked[0]):
		x.plain.asked[n] = asked[1:]
		x.Do(lose(n))
		x.hold(inject(n, x.lie(asked[0])))
	case k < 68:
		x.hold(inject(n, x.said()))
	case k < 70:
		x.hold(drop(n))
	case k < 74:
		x.hold(tick(x.r.Intn(6)))
		x.serveAll(0)
	case k < 77:
		x.hold(watch(script(x.r.Intn(5))))
	case k < 80:
		x.hold(settle(x.r.Intn(3)))
	case k < 82:
		x.crash()
	}
}

// honest tells whether a peer may answer this as it likes.
func (x *fair) honest(m api.Message) bool {
	return !x.truth || m.Kind == api.MsgGetHeaders
}

// crash has the tape stop at some time, and the machine begin anew. (A halted client refuses all.)
func (x *fair) crash() {
	x.t.Helper()
	if x.r.Intn(3) == 0 {
		x.hold(limit(len(x.Tape().Bytes()) + x.r.Intn(200)))
	} else {
		x.hold(fuse(x.r.Intn(9)))
	}
	ahead := x.Client().Watched()
	s := script(x.r.Intn(5))
	if x.Do(watch(s)) == api.OK && !holds(ahead, s) {
		ahead = append(ahead, s)
	}
	x.plain.do(watch(s))
	for range x.r.Intn(20) {
		x.hold(serve(x.r.Intn(5)))
		x.asks()
	}
	x.hold(crash(x.r.Intn(400) - 10))
	x.hold(limit(room))
	x.hold(begin())
	if got := x.Client().Watched(); len(got) < len(ahead) || fmt.Sprint(got[:len(ahead)]) != fmt.Sprint(ahead) {
		x.t.Fatal("P3: a script whose Watch was answered OK is not watched")
	}
	x.asks()
	x.greet()
}

func holds(l [][]byte, s []byte) bool {
	return slices.ContainsFunc(l, func(x []byte) bool { return bytes.Equal(x, s) })
}

// asks asks for P1 and P2.
func (x *fair) asks() {
	x.t.Helper()
	c := x.Client()
	s := c.Status()
	if want := x.m.Coins(s.Cursor, c.Watched()); fmt.Sprint(c.Coins()) != fmt.Sprint(want) {
		x.t.Fatalf("P1: at %d %v, not %v", s.Height, c.Coins(), want)
	}
	if sum, ok := audit.Sum(c.Coins()); sum != s.Balance || ok == s.Overflow {
		x.t.Fatal("P1: balance", s.Balance, s.Overflow, sum, ok)
	}
	way := x.way()
	if !audit.Leads(id(x.blocks[0]), way) || len(way) != s.Height+1 {
		x.t.Fatal("no way to the cursor")
	}
	if !audit.Own(way, x.Bodies(), c.Watched(), c.Coins()) {
		x.t.Fatal("P2: coins that are not right")
	}
}

// way is the headers to the cursor.
func (x *fair) way() []api.Header {
	c := x.Client()
	s := c.Status()
	var l []api.Header
	for h := range s.Height + 1 {
		at, _ := c.Tree().At(s.Cursor, h)
		one, _ := c.Tree().Header(at)
		l = append(l, one)
	}
	return l
}

// P1, P2, P3, and P4 in the end.
func TestPromises(t *testing.T) {
	went, back, coins := 0, 0, 0
	for seed := range int64(160) {
		x := newFair(t, seed, seed%2 == 0)
		x.greet()
		for range 120 {
			peers, height := x.Client().Peers(), x.Client().Status().Height
			x.turn()
			x.asks()
			went += max(len(peers)-len(x.Client().Peers()), 0)
			if x.Client().Status().Height < height {
				back++
			}
			coins += len(x.Client().Coins())
		}
		for n := 1; n < 5; n++ {
			x.hold(drop(n))
		}
		x.ends()
	}
	if went < 100 || back < 40 || coins < 1000 {
		t.Error("too little was tried", went, back, coins)
	}
}

// ends asks for P4: behind enough rounds it is synced, at a block with the most work.
func (x *fair) ends() {
	x.t.Helper()
	x.hold(settle(35))
	for x.Client().Status().State == api.StateHeaders && x.held < 1000 { // each tenth tick asks for headers anew
		x.hold(settle(1))
	}
	x.asks()
	s := x.Client().Status()
	tree := x.Client().Tree()
	work, _ := tree.Work(s.Cursor)
	most, ok := tree.Work(x.m.Best())
	if s.State != api.StateSynced || !ok || work != most {
		x.t.Fatal("P4: not in the end", s)
	}
}

// P1 and P4 where peers come and go in any order, and tell of other ways first, but say nothing that is untrue.
func TestPromisesOfTruth(t *testing.T) {
	back := 0
	for seed := range int64(160) {
		x := newFair(t, seed, true)
		for range 100 {
			height := x.Client().Status().Height
			if x.r.Intn(6) == 0 {
				x.hold(tick(10))
			}
			x.turn()
			x.asks()
			if x.Client().Status().Height < height {
				back++
			}
		}
		x.hold(connect(5))
		x.ends()
	}
	if back < 40 {
		t.Error("too few blocks were taken back", back)
	}
}

// P2 where nobody is honest: each coin is of a block that came, on the way, and was not spent within it.
func TestBodiesOfLiars(t *testing.T) {
	coins := 0
	for seed := range int64(150) {
		x := newFair(t, seed, false)
		for range 150 {
			s := x.step()
			if s.Kind == api.StepBytes {
				continue
			}
			x.hold(s)
			c := x.Client()
			if c == nil {
				continue
			}
			way := x.way()
			for _, one := range c.Coins() {
				coins++
				if one.Height < 1 || one.Height >= len(way) {
					t.Fatal("P2: height", one.Height)
				}
				its := slices.DeleteFunc(x.Bodies(), func(b api.Block) bool { return b.Header != way[one.Height] })
				if !audit.Own(way, its, c.Watched(), []api.Coin{one}) {
					t.Fatal("P2: of no block that came")
				}
			}
		}
	}
	if coins < 1000 {
		t.Error("coins", coins)
	}
}

// P2 speaks of the block that made a coin alone: where nobody is honest, one that spends it may have come, and be passed.
func TestBodiesPassed(t *testing.T) {
	r := start(t, a1, a2, a3)
	r.does(watch(mineOne))
	r.hello(1)
	r.serves(1, 7) // up to a2's body
	r.wantAt("a2", api.StateBlocks, a2, coin(payA2, 0, 2))
	r.does(lose(1), inject(1, sumsTold(id(a3), empty)), lose(1), inject(1, filterTold(id(a3), empty)), inject(1, bodyTold(a3)))
	r.wantAt("a3", api.StateSynced, a3, coin(payA2, 0, 2))
	way, watched, coins := []api.Header{g.Header, a1.Header, a2.Header, a3.Header}, [][]byte{mineOne}, r.Client().Coins()
	wantBodies(t, "came", r.Bodies(), a2, a3)
	if !audit.Own(way, r.Bodies()[:1], watched, coins) || audit.Own(way, r.Bodies(), watched, coins) {
		t.Error("own")
	}
}

// P3: a script of steps, cut off by a fuse at each place, with each count of bytes kept: it opens with the state behind the last batch that was synced, or behind the one that was on its way.
func TestCrashes(t *testing.T) {
	whole := start(t, a1, a2, a3, b2, b3, b4, b5)
	story(whole)
	all := whole.Tape().Bytes()
	ends := endsOf(all)
	if len(ends) < 15 {
		t.Fatal("batches", len(ends))
	}
	tried := 0
	for n := range 2*len(ends) + 1 {
		r := start(t, a1, a2, a3, b2, b3, b4, b5)
		r.does(fuse(n))
		story(r)
		synced := r.Tape().Synced()
		loose := len(r.Tape().Bytes()) - synced
		for _, keep := range []int{0, 1, 11, 12, 13, loose / 2, loose - 1, loose, loose + 1} {
			x, _ := tape.Of(nil, room)
			x.Append(all[:synced])
			x.Sync()
			x.Append(all[synced : synced+loose])
			x.Crash(keep)
			c, e := client.Open(chainOf(g), x)
			want(t, "open", e, api.OK)
			end := synced
			if keep >= loose {
				end += loose
			}
			same(t, fmt.Sprint(n, " ", keep), lasting(c), lasting(opened(t, all[:end])))
			tried++
		}
		r.does(crash(loose), begin())
		same(t, fmt.Sprint(n), lasting(r.Client()), lasting(opened(t, all[:synced+loose])))
	}
	if tried < 100 {
		t.Error(tried)
	}
}

// story is steps in which batches of all kinds come. Errors play no part.
func story(r *rig) {
	for _, s := range []api.Step{
		connect(1), serve(1), serve(1), lose(1), inject(1, headersTold(a1, a2)), inject(1, headersTold(a3)), inject(1, headersTold()),
		watch(mineOne), watch(mineTwo), settle(29), watch(foreign), settle(25), drop(1),
	} {
		r.Do(s)
	}
}

// endsOf is where a tape's frames end.
func endsOf(b []byte) []int {
	var ends []int
	for at := 0; at < len(b); {
		at += 12 + int(b[at]) + int(b[at+1])<<8 + int(b[at+2])<<16
		ends = append(ends, at)
	}
	return ends
}

func opened(t *testing.T, b []byte) *client.Client {
	t.Helper()
	x, _ := tape.Of(b, room)
	c, e := client.Open(chainOf(g), x)
	want(t, "open", e, api.OK)
	return c
}

// lasting is what a client has that opens anew.
func lasting(c *client.Client) string {
	s := c.Status()
	s.State = 0
	return fmt.Sprint(s, c.Coins(), c.History(), c.Watched(), c.Tree().All())
}

// P4: with honest peers alone, whoever comes when, the client is synced in the end.
func TestInTheEnd(t *testing.T) {
	for seed := range int64(100) {
		r := rand.New(rand.NewSource(seed))
		blocks := forest(r, 2+r.Intn(14))
		x := startOf(t, chainOf(blocks[0]), blocks[1:])
		for n := range r.Intn(4) {
			x.does(watch(script(n)))
		}
		for _, n := range r.Perm(8)[:1+r.Intn(8)] {
			x.does(connect(n), settle(r.Intn(3)))
		}
		x.does(settle(70))
		for x.Client().Status().State == api.StateHeaders { // each tenth tick asks for headers anew
			x.does(settle(1))
		}
		s := x.Client().Status()
		if s.State != api.StateSynced || s.Cursor != x.m.Best() || fmt.Sprint(x.Client().Coins()) != fmt.Sprint(x.m.Coins(s.Cursor, x.Client().Watched())) {
			t.Error(seed, s)
		}
	}
}

// A way of more headers than a message has.
func TestLongWay(t *testing.T) {
	first := mine(api.Hash{}, 1000, pay(0, nil, foreign))
	blocks := []api.Block{first}
	for n := range 200 {
		s := foreign
		if n%50 == 49 {
			s = mineOne
		}
		blocks = append(blocks, mine(id(blocks[n]), uint32(1010+n), pay(1+n, nil, s)))
	}
	x := startOf(t, chainOf(first), blocks[1:])
	x.does(watch(mineOne), connect(0), connect(4), settle(300), settle(300), settle(9))
	if s := x.Client().Status(); s.State != api.StateSynced || s.Height != 200 || s.Balance != 20 {
		t.Error(s)
	}
	same(t, "fetched", len(x.Client().Fetched()), 4)
}

// P5: of worlds in which nothing matches, all is sent the same, whatever is watched.
func TestBlind(t *testing.T) {
	for seed := range int64(12) {
		blocks := forest(rand.New(rand.NewSource(seed)), 14)
		var first *rig
		for k := range 3 {
			r := rand.New(rand.NewSource(seed))
			x := startOf(t, chainOf(blocks[0]), blocks[1:])
			for i := range 1 + 5*k {
				x.does(watch(script(1000*k + 500 + i)))
			}
			for range 60 {
				n := r.Intn(5)
				x.Do([]api.Step{connect(n), drop(n), serve(n), settle(1), settle(4), tick(2), lose(n)}[r.Intn(7)])
			}
			if first == nil {
				first = x
			}
			if len(x.Client().Fetched()) > 0 || x.Client().Status().Cursor != first.Client().Status().Cursor {
				t.Error(seed, k, x.Client().Status(), len(x.Client().Fetched()))
			}
			for n := range 8 {
				if !bytes.Equal(x.Out(n), first.Out(n)) {
					t.Error(seed, k, "what is sent hangs on scripts", n)
				}
			}
		}
	}
}

// P5: what is sent until a block is fetched is the same, too.
func TestBlindUntilFetched(t *testing.T) {
	x, y := start(t, a1, a2, a3), start(t, a1, a2, a3)
	x.does(watch(mineOne), connect(0))
	y.does(watch(mineTwo), connect(0))
	x.serves(0, 7)
	y.serves(0, 7)
	if !bytes.Equal(x.Out(0), y.Out(0)) {
		t.Error("unlike ahead of a2's filter")
	}
	x.serves(0, 1)
	y.serves(0, 1)
	same(t, "x", asks(x), api.MsgGetData)
	same(t, "y", asks(y), api.MsgGetSums)
}

// asks is the kind of what peer 0 was sent last.
func asks(r *rig) int {
	l := kinds(r.sent(0))
	return l[len(l)-1]
}
