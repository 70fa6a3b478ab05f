package client_test

import (
	"fmt"
	"math"
	"slices"
	"testing"

	"sporran/api"
	"sporran/client"
	"sporran/header"
	"sporran/tape"
)

// tale is calls of a rig's client, up to the first one that fails.
type tale struct {
	*rig
	e api.Errno
}

func (x *tale) do(call func() ([]api.Sent, api.Errno)) {
	if x.e != api.OK {
		return
	}
	l, e := call()
	if e == api.OK {
		x.heard(l, e)
	}
	x.e = e
}

func (x *tale) say(n int, l ...api.Message) {
	for _, m := range l {
		x.do(func() ([]api.Sent, api.Errno) {
			delete(x.asked, n)
			return x.c.Feed(n, bytesOf(x.t, m))
		})
	}
}

func (x *tale) watch(s []byte) {
	x.do(func() ([]api.Sent, api.Errno) { return x.c.Watch(s) })
}

// settle ticks ten times, so that headers are asked for, and has peer 1 answer all.
func (x *tale) settle() {
	for range 10 {
		x.do(x.c.Tick)
	}
	for x.e == api.OK && len(x.asked[1]) > 0 {
		x.say(1, x.m.Answer(x.asked[1][0])...)
	}
}

// story is calls in which batches of all kinds come: scripts are watched, headers come, blocks pass, bodies are applied, blocks are taken back.
func story(r *rig) api.Errno {
	x := &tale{rig: r}
	x.do(func() ([]api.Sent, api.Errno) { return r.c.Connect(1) })
	x.say(1, version, verack, headersTold(a1), headersTold())
	x.watch(mineOne)
	x.watch(mineTwo)
	x.settle()
	r.m = modelOf(r.t, a1, a2, a3, b2, b3, b4, b5)
	x.settle()
	x.watch(foreign)
	x.settle()
	x.do(func() ([]api.Sent, api.Errno) { return r.c.Gone(1) })
	return x.e
}

func storyRig(t *testing.T) *rig {
	return plainStart(t, a1, a2, a3)
}

// prefix is a client of the first batches of a tape.
func prefix(t *testing.T, b []byte, n int) *client.Client {
	t.Helper()
	ends := []int{0}
	for at := 0; at < len(b); {
		at += 12 + int(b[at]) + int(b[at+1])<<8 + int(b[at+2])<<16
		ends = append(ends, at)
	}
	x, _ := tape.Of(b[:ends[n]], room)
	c, e := client.Open(chainOf(g), x)
	want(t, "prefix", e, api.OK)
	return c
}

// said is what of a client does not hang on its headers beyond the cursor.
func said(c *client.Client) string {
	s := c.Status()
	return fmt.Sprint(s.Cursor, s.Height, s.Balance, s.Overflow, c.Coins(), c.History(), c.Watched())
}

// P3, and what halts: wherever the tape stops, all of a batch is done or nothing; the client has halted, its peers are gone, it sends nothing and changes nothing; it opens with what there was.
func TestHalts(t *testing.T) {
	r := storyRig(t)
	want(t, "the story", story(r), api.OK)
	all := r.tape.Bytes()
	total := r.count()
	if total < 20 {
		t.Fatal(total)
	}
	kinds := map[string]bool{}
	for fuse := range 2*total + 1 {
		r := storyRig(t)
		r.tape.Fuse(fuse)
		e := story(r)
		if fuse == 2*total {
			want(t, "a long fuse", e, api.OK)
			break
		}
		want(t, "a fuse", e, api.ErrDead)
		done := fuse / 2
		kinds[kindOf(batches(t, mustTape(t, all))[done])] = true
		r.wantHalted(prefix(t, all, done), api.ErrDead)
		for _, keep := range []int{0, 1, 50, math.MaxInt} {
			x := r.tape.Copy()
			x.Crash(keep)
			c, e := client.Open(r.p, x)
			want(t, "Open", e, api.OK)
			if got := lasting(c); got != lasting(prefix(t, all, done)) && (fuse%2 == 0 || got != lasting(prefix(t, all, done+1))) {
				t.Errorf("fuse %d, %d kept: opens with what never was", fuse, keep)
			}
			if keep == math.MaxInt && fuse%2 == 1 && lasting(c) != lasting(prefix(t, all, done+1)) {
				t.Errorf("fuse %d: a whole batch is not there", fuse)
			}
		}
	}
	if len(kinds) != 5 {
		t.Error("not all kinds of batches", kinds)
	}
}

func mustTape(t *testing.T, b []byte) *tape.Tape {
	x, e := tape.Of(b, room)
	want(t, "tape", e, api.OK)
	return x
}

// kindOf is what a batch is for.
func kindOf(b api.Batch) string {
	switch {
	case b.Puts[0].Key[0] != 'c':
		return b.Puts[0].Key[:1]
	case len(b.Puts) > 1 && b.Puts[len(b.Puts)-1].Key[0] == 'd':
		return "applied"
	case len(b.Deletes) > 0 && b.Deletes[len(b.Deletes)-1][0] == 'd':
		return "back"
	}
	return "cursor"
}

// wantHalted asks whether a client has halted with what another one has.
func (r *rig) wantHalted(as *client.Client, e api.Errno) {
	r.t.Helper()
	if said(r.c) != said(as) {
		r.t.Errorf("halted with\n%s, not\n%s", said(r.c), said(as))
	}
	for i, h := range as.Tree().All() {
		if r.c.Tree().All()[i] != h {
			r.t.Error("a header is lost")
		}
	}
	if r.c.Status().State != api.StateHalted || len(r.c.Peers()) > 0 {
		r.t.Error("has not halted", r.c.Status(), r.c.Peers())
	}
	for name, call := range map[string]func() ([]api.Sent, api.Errno){
		"Watch":                func() ([]api.Sent, api.Errno) { return r.c.Watch(script(60)) },
		"Watch of none":        func() ([]api.Sent, api.Errno) { return r.c.Watch(nil) },
		"Watch of one":         func() ([]api.Sent, api.Errno) { return r.c.Watch(mineOne) },
		"Connect":              func() ([]api.Sent, api.Errno) { return r.c.Connect(2) },
		"Connect out of range": func() ([]api.Sent, api.Errno) { return r.c.Connect(-1) },
		"Gone":                 func() ([]api.Sent, api.Errno) { return r.c.Gone(1) },
		"Gone of none":         func() ([]api.Sent, api.Errno) { return r.c.Gone(99) },
		"Feed":                 func() ([]api.Sent, api.Errno) { return r.c.Feed(1, []byte{1}) },
		"Tick":                 func() ([]api.Sent, api.Errno) { return r.c.Tick() },
	} {
		r.wantError(name, api.ErrHalt, call)
	}
}

// What halts it within a call that had already sent, or had gone on: nothing is sent, and what was done ahead stays.
func TestHaltsWithin(t *testing.T) {
	r := plainStart(t, a1, a2, a3)
	r.connect(1)
	r.say(1, version, verack)
	r.say(1, headersTold(a1, a2, a3))
	r.tape.Fuse(3)
	l, e := r.c.Feed(1, append(bytesOf(t, api.Message{Kind: api.MsgPing}), bytesOf(t, headersTold())...))
	want(t, "a ping, and three blocks", e, api.ErrDead)
	same(t, "sent", len(l), 0)
	same(t, "one block is passed", r.c.Status(), api.Status{State: api.StateHalted, Cursor: id(a1), Height: 1, Best: 3})
	r.tape.Crash(0)
	r.open()
	r.wantAt("opened", api.StateHeaders, a1)
}

// Headers that the tree took stay, though the tape has them not.
func TestHaltedHeaders(t *testing.T) {
	r := start(t, a1, a2)
	r.meet(1, 2)
	r.connect(3)
	r.say(3, version, verack)
	r.tape.Fuse(0)
	l, e := r.c.Feed(3, bytesOf(t, headersTold(a3, a4)))
	want(t, "headers", e, api.ErrDead)
	same(t, "sent", len(l), 0)
	same(t, "status", r.c.Status(), api.Status{State: api.StateHalted, Cursor: id(g), Best: 4})
	same(t, "peers", len(r.c.Peers()), 0)
	r.tape.Crash(0)
	r.open()
	same(t, "opened", r.c.Status(), api.Status{State: api.StateHeaders, Cursor: id(g), Best: 2})
}

// Example 8: a tape that is full: the client halts, and says so.
func TestFullTape(t *testing.T) {
	r := start(t, a1, a2, a3)
	r.meet(1)
	r.settle()
	r.tick(9)
	r.tape.Room(len(r.tape.Bytes()) + 100)
	r.tick(1)
	_, e := r.c.Feed(1, bytesOf(t, headersTold(a4)))
	want(t, "full", e, api.ErrFull)
	same(t, "state", r.c.Status().State, api.StateHalted)
	r.wantCoins("coins", coin(payA3, 0, 3))
	r.tape.Room(room)
	_, e = r.c.Tick()
	want(t, "for ever", e, api.ErrHalt)
	r.open()
	r.wantAt("opened", api.StateHeaders, a3, coin(payA3, 0, 3))
	r.meet(1)
	r.wantAt("goes on", api.StateSynced, a3, coin(payA3, 0, 3))
}

// A Watch that fails: the script is not watched, coins are what they were.
func TestHaltedWatch(t *testing.T) {
	for fuse, e := range []api.Errno{api.ErrDead, api.ErrDead} {
		r := start(t, a1, a2)
		r.meet(1)
		r.settle()
		r.tape.Fuse(fuse)
		l, got := r.c.Watch(foreign)
		want(t, "Watch", got, e)
		same(t, "sent", len(l), 0)
		same(t, "watched", r.c.Watched(), [][]byte{mineOne, mineTwo})
		same(t, "status", r.c.Status(), api.Status{State: api.StateHalted, Cursor: id(a2), Height: 2, Best: 2, Balance: 5})
		r.tape.Crash(fuse * room)
		r.open()
		same(t, "opened", len(r.c.Watched()), 2+fuse)
	}
}

// crowd is a block that makes more coins of a script than what it did has room for.
func crowd(up api.Block, outs int) api.Block {
	return mine(id(up), up.Header.Time+10, pay(70, nil, slices.Repeat([][]byte{mineOne}, outs)...))
}

// A batch that can't be halts it as well: what a block did has more bytes than a value may.
func TestBatchThatCantBe(t *testing.T) {
	most := (api.MaxValue - 12 - 56) / 61 // 12 bytes of counts, 61 of each coin, 56 of the entry
	for _, outs := range []int{most, most + 1} {
		b := crowd(a1, outs)
		r := start(t, a1, b)
		r.meet(1)
		r.say(1, r.sumsOf(a1))
		r.serve(1)
		r.serve(1)
		r.serve(1)
		_, e := r.c.Feed(1, bytesOf(t, bodyTold(b)))
		if outs == most {
			want(t, "just so many", e, api.OK)
			same(t, "coins", len(r.c.Coins()), outs)
			r.open()
			same(t, "coins, opened", len(r.c.Coins()), outs)
			continue
		}
		want(t, "one too many", e, api.ErrArg)
		r.wantAt("one too many", api.StateHalted, a1)
		_, e = r.c.Tick()
		want(t, "halted", e, api.ErrHalt)
		r.open()
		r.wantAt("opened", api.StateHeaders, a1)
	}
}

// Blocks whose header's time, or whose way, are long don't matter to what stands on the tape: h, then the number in eight digits.
func TestHeaderNumbers(t *testing.T) {
	r := plainStart(t)
	r.connect(1)
	r.say(1, version, verack)
	up := g
	var all []api.Pair
	for n := 1; n <= 11; n++ {
		up = mine(id(up), up.Header.Time+1, pay(n, nil))
		all = append(all, headerPair(n, up))
		r.say(1, headersTold(up))
	}
	var l []api.Batch
	for _, p := range all {
		l = append(l, puts(p))
	}
	r.wantBatches("one by one", 0, l...)
	same(t, "key", all[10].Key, "h00000011")
	same(t, "value", all[10].Value, header.Encode(up.Header))
	r.open()
	r.connect(1)
	r.say(1, version, verack)
	up = mine(id(up), up.Header.Time+1, pay(12, nil))
	r.say(1, headersTold(up))
	r.wantBatches("goes on behind them", 11, puts(headerPair(12, up)))
}
