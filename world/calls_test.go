package world_test

import (
	"bytes"
	"fmt"
	"math"
	"slices"
	"testing"

	"sporran/api"
	"sporran/frame"
	"sporran/message"
	"sporran/world"
)

// P23.3

func TestClientAndTape(t *testing.T) {
	r := start(t, a1)
	c, x := r.Client(), r.Tape()
	if c == nil || x == nil || r.Client() != c || r.Tape() != x {
		t.Fatal("not the things themselves")
	}
	r.does(watch(mineOne))
	if len(c.Watched()) != 1 || len(x.Bytes()) == 0 {
		t.Error("not the things themselves")
	}
	r.does(crash(0))
	if r.Client() != nil || r.Tape() != x {
		t.Error("down")
	}
	r.does(begin())
	if r.Client() == nil || r.Client() == c || r.Tape() != x {
		t.Error("up")
	}
	c.Connect(0) // the old one: what it sends plays no part
	if len(r.Out(0)) != 0 || len(r.Client().Peers()) != 0 {
		t.Error("the old client")
	}
	r.does(fuse(0))
	want(t, "halts", r.Do(watch(mineTwo)), api.ErrDead)
	if r.Client() == nil {
		t.Error("one that has halted runs")
	}
}

func TestOut(t *testing.T) {
	r := start(t, a1)
	r.does(connect(0), connect(7), inject(7, version))
	same(t, "0", kinds(r.sent(0)), []int{api.MsgVersion})
	same(t, "7", kinds(r.sent(7)), []int{api.MsgVersion, api.MsgVerack})
	for _, n := range []int{-1, 8, 100, math.MinInt, math.MaxInt} {
		if r.Out(n) != nil {
			t.Error(n)
		}
	}
	r.Client().Connect(8)
	r.does(tick(20))
	if r.Out(8) != nil {
		t.Error(8)
	}
}

// Blocks that came by any way, whatever the client made of them.
func TestBodies(t *testing.T) {
	r := start(t, a1, a2, a3)
	r.does(watch(mineOne))
	r.hello(0)
	odd := a3
	odd.Txs = a2.Txs
	none := api.Block{Header: a4.Header}
	var came []api.Block
	wants := func(name string, l ...api.Block) {
		t.Helper()
		came = append(came, l...)
		wantBodies(t, name, r.Bodies(), came...)
	}
	wants("none")
	r.does(inject(0, bodyTold(a2)))
	wants("injected, not asked for", a2)
	r.does(inject(0, bodyTold(a2)), inject(0, bodyTold(none)), inject(0, bodyTold(odd)))
	wants("twice, without transactions, with others", a2, none, odd)
	r.does(inject(0, ping))
	wants("no block")
	r.does(feed(0, bytesOf(t, bodyTold(b2), ping, bodyTold(a1))...))
	wants("bytes", b2, a1)
	for r.Do(serve(0)) == api.OK {
	}
	wants("served", a2, a3)
	r.fails("refused by the world", inject(8, bodyTold(a1)), api.ErrArg)
	r.does(feed(0, append(bytesOf(t, bodyTold(b3), bodyTold(b4)), make([]byte, 24)...)...))
	wants("ahead of a fault", b3, b4)
	same(t, "peers", r.Client().Peers(), []int{})
	r.does(connect(1), feed(1, bytesOf(t, version, version, bodyTold(b5))...))
	wants("behind a wrong", b5)
	same(t, "peers", r.Client().Peers(), []int{})
	r.does(connect(1), feed(1, append(append(bytesOf(t, bodyTold(a1)), make([]byte, 24)...), bytesOf(t, bodyTold(a2))...)...))
	wants("behind a fault", a1)
	r.does(crash(0))
	wants("crash")
	r.does(begin())
	wants("start")
}

// Frames that are cut, that can't be read, and that are no blocks.
func TestBodiesOfBytes(t *testing.T) {
	r := start(t, a1)
	r.does(connect(0), connect(1), inject(0, version), inject(0, verack))
	b := bytesOf(t, bodyTold(a1))
	two := append(slices.Clone(b), bytesOf(t, bodyTold(a2))...)
	r.does(feed(0, b[:50]...), feed(0, b[50:]...))
	same(t, "cut", len(r.Bodies()), 0)
	r.does(feed(0, two[:len(two)-1]...))
	wantBodies(t, "the last one cut", r.Bodies(), a1)
	r.does(feed(0, append(two[len(two)-1:], b...)...)) // what was cut stands ahead, so that no frame is told
	wantBodies(t, "behind an end", r.Bodies(), a1)
	r.does(feed(0, b[:24]...), inject(0, bodyTold(a3)))
	wantBodies(t, "injected into a frame", r.Bodies(), a1, a3)

	f, _ := message.Encode(bodyTold(a1))
	f.Payload = append(f.Payload, 0)
	odd := frameOf(t, f)
	f, _ = message.Encode(bodyTold(a2))
	f.Command = "tx"
	other := frameOf(t, f)
	r.does(connect(2), feed(2, slices.Concat(odd, other, b)...))
	wantBodies(t, "bytes behind a block, and no block", r.Bodies(), a1, a3, a1)
}

// A block that came to a client that refuses bytes has come: what a client made of it plays no part.
func TestBodiesRefused(t *testing.T) {
	r := start(t, a1)
	want(t, "not there", r.Do(inject(0, bodyTold(a1))), api.ErrPeer)
	want(t, "not there", r.Do(feed(0, bytesOf(t, bodyTold(a2))...)), api.ErrPeer)
	wantBodies(t, "not there", r.Bodies(), a1, a2)
	r.does(connect(0), fuse(0))
	want(t, "halts", r.Do(watch(mineOne)), api.ErrDead)
	want(t, "halted", r.Do(inject(0, bodyTold(a3))), api.ErrHalt)
	wantBodies(t, "halted", r.Bodies(), a1, a2, a3)
	r.does(crash(0))
	r.fails("down", inject(0, bodyTold(a4)), api.ErrArg)
}

func frameOf(t *testing.T, f api.Frame) []byte {
	t.Helper()
	b, e := frame.Encode(f)
	if e != api.OK {
		t.Fatal(e)
	}
	return b
}

// Objects

func TestPlain(t *testing.T) {
	for _, w := range []*world.World{nil, {}} {
		for kind := range 15 {
			want(t, fmt.Sprint("kind ", kind), w.Do(api.Step{Kind: kind, Bytes: mineOne, Message: ping}), api.ErrNil)
		}
		want(t, "no peer", w.Do(connect(8)), api.ErrNil)
		if w.Client() != nil || w.Tape() != nil || w.Out(0) != nil || w.Bodies() != nil {
			t.Error("not zero values")
		}
	}
}

// A copy of a World's value is that world.
func TestCopiedWorld(t *testing.T) {
	r := start(t, a1)
	twin := *r.World
	r.does(connect(0))
	want(t, "there", twin.Do(connect(0)), api.ErrPeer)
	want(t, "crash", twin.Do(crash(0)), api.OK)
	if r.Client() != nil {
		t.Error("runs")
	}
	r.does(begin())
	if twin.Client() == nil || twin.Client() != r.Client() {
		t.Error("does not run")
	}
	r.does(connect(3))
	if !bytes.Equal(twin.Out(3), r.Out(3)) || len(twin.Out(3)) == 0 {
		t.Error("out")
	}
}

// Memory

// room behind an end, of which nobody may write.
func spare[T any](l []T) []T {
	return append(make([]T, 0, len(l)+5), l...)
}

// What is handed in is neither changed nor kept.
func TestArguments(t *testing.T) {
	first := mine(api.Hash{}, 1000, pay(0, nil, script(9)))
	one := mine(id(first), 1010, pay(1, nil, script(1)))
	p := api.Params{Genesis: first, Limit: easy, Checks: spare([]api.Check{{Height: 1, ID: id(one)}})}
	blocks := spare([]api.Block{one})
	before := fmt.Sprint(p, blocks, p.Checks[:3], blocks[:3])
	w, e := world.New(p, blocks, room)
	if e != api.OK {
		t.Fatal(e)
	}
	r := &rig{t: t, World: w}
	r.does(connect(0), settle(5), crash(0))
	if fmt.Sprint(p, blocks, p.Checks[:3], blocks[:3]) != before {
		t.Error("changed")
	}
	p.Checks[0].ID[0]++
	p.Genesis.Txs[0].Out[0].Script[0]++
	p.Genesis.Txs[0].In[0].Prev.Index++
	blocks[0].Txs[0].Out[0].Script[0]++
	blocks[0] = api.Block{}
	r.does(begin(), watch(script(1)), connect(0), settle(9))
	if s := r.Client().Status(); s.State != api.StateSynced || s.Height != 1 || s.Balance != 5 {
		t.Error(s)
	}
}

func TestStepArguments(t *testing.T) {
	r := start(t, a1, a2)
	s := spare(slices.Clone(mineOne))
	step := watch(s)
	r.does(step)
	if !bytes.Equal(s, mineOne) || !bytes.Equal(s[:10][5:], make([]byte, 5)) {
		t.Error("changed")
	}
	s[0]++
	same(t, "watched", r.Client().Watched(), [][]byte{mineOne})
	r.does(connect(0))
	b := spare(bytesOf(t, version, verack, bodyTold(a2)))
	r.does(feed(0, b...))
	clear(b)
	x := bodyTold(a1)
	x.Block.Txs = []api.Tx{pay(1, nil, slices.Clone(foreign))}
	x.Block.Txs[0].In[0].Witness = [][]byte{{1, 2}}
	text := fmt.Sprint(x)
	r.does(inject(0, x))
	if fmt.Sprint(x) != text {
		t.Error("changed")
	}
	held := fmt.Sprint(r.Bodies())
	x.Block.Txs[0].Out[0].Script[0]++
	x.Block.Txs[0].In[0].Witness[0][0]++
	x.Block.Txs[0] = api.Tx{}
	same(t, "bodies", fmt.Sprint(r.Bodies()), held)
}

// An answer is new memory.
func TestAnswers(t *testing.T) {
	r := start(t, a1, a2)
	with := pay(1, nil, mineOne, mineTwo)
	with.In[0].Witness = [][]byte{{1, 2}, {3}}
	r.does(watch(mineOne), connect(0), inject(0, bodyTold(mine(id(g), 1, with))), connect(1), settle(9))
	before := r.all()
	for range 2 {
		for n := range 2 {
			b := r.Out(n)
			clear(b[:cap(b)])
		}
		l := r.Bodies()
		for i := range l {
			for k := range l[i].Txs {
				spoil(&l[i].Txs[k])
			}
			clear(l[i].Txs[:cap(l[i].Txs)])
		}
		clear(l[:cap(l)])
		same(t, "spoilt", r.all(), before)
	}
	l, other := r.Bodies(), r.Bodies()
	spoil(&l[0].Txs[0])
	if fmt.Sprint(other) != fmt.Sprint(r.Bodies()) || len(l) < 2 {
		t.Error("two answers share memory")
	}
	r.does(feed(1, bytesOf(t, bodyTold(a1))...))
	same(t, "kept", len(other)+1, len(r.Bodies()))
}

func spoil(x *api.Tx) {
	for i := range x.In {
		clear(x.In[i].Script[:cap(x.In[i].Script)])
		for _, w := range x.In[i].Witness {
			clear(w[:cap(w)])
		}
		clear(x.In[i].Witness[:cap(x.In[i].Witness)])
	}
	for i := range x.Out {
		clear(x.Out[i].Script[:cap(x.Out[i].Script)])
	}
	clear(x.In[:cap(x.In)])
	clear(x.Out[:cap(x.Out)])
}

// Of one answer no two lists share memory, even if a block came twice.
func TestAnswerTwice(t *testing.T) {
	r := start(t, a1)
	r.does(connect(0), inject(0, bodyTold(a2)), connect(1), inject(1, bodyTold(a2)))
	l := r.Bodies()
	spoil(&l[0].Txs[0])
	same(t, "the other one", l[1], a2)
}
