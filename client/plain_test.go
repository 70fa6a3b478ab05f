package client_test

import (
	"bytes"
	"fmt"
	"math"
	"math/rand"
	"slices"
	"strings"
	"testing"

	"sporran/api"
	"sporran/block"
	"sporran/client"
	"sporran/filter"
	"sporran/header"
	"sporran/message"
	"sporran/model"
	"sporran/session"
	"sporran/tape"
	"sporran/tree"
	"sporran/votes"
)

// plain is what chapter 21 says, step by step, without halting: random scripts hold the client against it.
type plain struct {
	tree    *tree.Tree
	count   int // of headers in batches
	scripts [][]byte
	coins   []api.Coin // in order
	dids    map[api.Hash]plainDid
	cursor  api.Hash
	clock   int
	peers   []*plainPeer
	has     bool // is there a next block
	next    api.Hash
	height  int
	votes   []plainVote
	filter  []byte
	body    *api.Block
	fetched []api.Hash
	out     []api.Sent
	batches []api.Batch
}

type plainDid struct {
	made, spent []api.Coin
	entries     []api.Entry
}

type plainPeer struct {
	n     int
	s     *session.Session
	since int
	done  bool
	asks  *api.Message
	tried bool
}

type plainVote struct {
	p   *plainPeer
	sum api.Hash
}

func newPlain(p api.Params) *plain {
	x, _ := tree.New(p)
	return &plain{tree: x, cursor: x.Tip(), dids: map[api.Hash]plainDid{}}
}

// reopen is what a client knows that opens anew.
func (c *plain) reopen() {
	c.clock, c.peers, c.has, c.fetched = 0, nil, false, nil
}

func (c *plain) sent() []api.Sent {
	l := c.out
	c.out = nil
	return l
}

func (c *plain) peer(n int) *plainPeer {
	for _, p := range c.peers {
		if p.n == n {
			return p
		}
	}
	return nil
}

func (c *plain) forget(p *plainPeer) {
	c.peers = slices.DeleteFunc(c.peers, func(x *plainPeer) bool { return x == p })
	c.votes = slices.DeleteFunc(c.votes, func(v plainVote) bool { return v.p == p })
}

func (c *plain) drop(p *plainPeer) {
	c.forget(p)
	c.out = append(c.out, api.Sent{Peer: p.n, Drop: true})
}

func (c *plain) ask(p *plainPeer, m api.Message) {
	b, e := p.s.Ask(m, c.clock)
	if e != api.OK {
		panic(e)
	}
	p.asks = &m
	c.out = append(c.out, api.Sent{Peer: p.n, Bytes: b})
}

func (p *plainPeer) free() bool { return p.s.Ready() && p.asks == nil }

func (c *plain) vote(p *plainPeer) (api.Hash, bool) {
	for _, v := range c.votes {
		if v.p == p {
			return v.sum, true
		}
	}
	return api.Hash{}, false
}

func (c *plain) parts() bool {
	for _, v := range c.votes {
		if v.sum != c.votes[0].sum {
			return true
		}
	}
	return false
}

func (c *plain) owes(kind int) bool {
	for _, p := range c.peers {
		if p.asks != nil && p.asks.Kind == kind && (p.asks.Stop == c.next || len(p.asks.Hashes) == 1 && p.asks.Hashes[0] == c.next) {
			return true
		}
	}
	return false
}

func (c *plain) batch(cursor api.Hash, puts []api.Pair, deletes []string) {
	c.batches = append(c.batches, api.Batch{Puts: append([]api.Pair{{Key: "c", Value: cursor[:]}}, puts...), Deletes: deletes})
	c.cursor = cursor
}

func (c *plain) coinPuts() []api.Pair {
	var l []api.Pair
	for _, x := range c.coins {
		l = append(l, coinPair(x))
	}
	return l
}

func (c *plain) sortCoins() {
	slices.SortFunc(c.coins, func(a, b api.Coin) int { return strings.Compare(keyOf(a.Point), keyOf(b.Point)) })
}

func (c *plain) take(p api.Point) (api.Coin, bool) {
	for i, x := range c.coins {
		if x.Point == p {
			c.coins = slices.Delete(c.coins, i, i+1)
			return x, true
		}
	}
	return api.Coin{}, false
}

func (c *plain) work() {
	for c.pass() {
	}
}

// pass is the ten steps once; false, if nothing is left to do.
func (c *plain) pass() bool {
	for _, p := range c.peers {
		if p.free() && !p.done {
			c.ask(p, api.Message{Kind: api.MsgGetHeaders, Number: 70015, Hashes: c.tree.Locator()})
		}
	}
	if c.wait() {
		return false
	}
	tip := c.tree.Tip()
	if fork, _ := c.tree.Fork(c.cursor, tip); fork != c.cursor {
		c.back()
		return true
	}
	if c.cursor == tip {
		return false
	}
	h, _ := c.tree.Height(c.cursor)
	next, _ := c.tree.At(tip, h+1)
	if !c.has || c.next != next {
		c.has, c.next, c.height, c.votes, c.filter, c.body = true, next, h+1, nil, nil, nil
		for _, p := range c.peers {
			p.tried = false
		}
	}
	if len(c.scripts) == 0 {
		c.has = false
		c.batch(next, nil, nil)
		return true
	}
	return c.judge()
}

func (c *plain) wait() bool {
	ready := false
	for _, p := range c.peers {
		ready = ready || p.s.Ready()
		if p.s.Ready() && !p.done {
			return true
		}
	}
	return !ready
}

func (c *plain) back() {
	h, _ := c.tree.Header(c.cursor)
	d, ok := c.dids[c.cursor]
	if !ok {
		c.batch(h.Prev, nil, nil)
		return
	}
	was := slices.Clone(c.coins)
	for _, x := range d.made {
		c.take(x.Point)
	}
	for _, x := range d.spent {
		if !slices.ContainsFunc(d.made, func(y api.Coin) bool { return y.Point == x.Point }) {
			c.coins = append(c.coins, x)
		}
	}
	c.sortCoins()
	b := header.ID(h)
	delete(c.dids, c.cursor)
	c.batch(h.Prev, c.coinPuts(), append(c.gone(was), "d"+string(b[:])))
}

func (c *plain) gone(was []api.Coin) []string {
	var l []string
	for _, x := range was {
		if !slices.ContainsFunc(c.coins, func(y api.Coin) bool { return y.Point == x.Point }) {
			l = append(l, keyOf(x.Point))
		}
	}
	return l
}

// judge is the steps from 6 on.
func (c *plain) judge() bool {
	ask := func(kind int) api.Message {
		return api.Message{Kind: kind, Number: uint32(c.height), Stop: c.next}
	}
	all := true
	for _, p := range c.peers {
		_, voted := c.vote(p)
		if p.free() && !voted {
			c.ask(p, ask(api.MsgGetSums))
		}
		all = all && (voted || !p.s.Ready())
	}
	if !all {
		return false
	}
	if !c.parts() && c.body == nil {
		if c.filter == nil {
			if !c.owes(api.MsgGetFilter) {
				for _, v := range c.votes {
					if v.p.free() {
						c.ask(v.p, ask(api.MsgGetFilter))
						break
					}
				}
			}
			return false
		}
		if hit, _ := filter.Match(c.next, c.filter, c.scripts); !hit {
			c.has = false
			c.batch(c.next, nil, nil)
			return true
		}
	}
	if c.body == nil {
		if !c.owes(api.MsgGetData) {
			for _, p := range c.peers {
				if p.free() {
					c.ask(p, api.Message{Kind: api.MsgGetData, Hashes: []api.Hash{c.next}})
					c.fetched = append(c.fetched, c.next)
					break
				}
			}
		}
		return false
	}
	if c.parts() {
		for _, p := range c.peers {
			if _, voted := c.vote(p); p.free() && voted && !p.tried {
				c.ask(p, ask(api.MsgGetFilter))
				p.tried = true
			}
		}
		if c.owes(api.MsgGetFilter) {
			return false
		}
	}
	c.apply()
	return true
}

func (c *plain) apply() {
	was := slices.Clone(c.coins)
	var d plainDid
	for _, x := range c.body.Txs {
		h := txID(x)
		for _, in := range x.In {
			if y, ok := c.take(in.Prev); ok {
				d.spent = append(d.spent, y)
			}
		}
		for i, o := range x.Out {
			p := api.Point{ID: h, Index: uint32(i)}
			watched := slices.ContainsFunc(c.scripts, func(s []byte) bool { return bytes.Equal(s, o.Script) })
			there := slices.ContainsFunc(c.coins, func(y api.Coin) bool { return y.Point == p })
			if watched && !there {
				y := api.Coin{Point: p, Out: o, Height: c.height}
				c.coins = append(c.coins, y)
				d.made = append(d.made, y)
			}
		}
	}
	for _, x := range c.body.Txs {
		y := api.Entry{ID: txID(x), Height: c.height}
		for _, z := range d.made {
			if z.Point.ID == y.ID {
				y.Got += z.Out.Value
			}
		}
		for _, z := range d.spent {
			if slices.ContainsFunc(x.In, func(in api.In) bool { return in.Prev == z.Point }) {
				y.Paid += z.Out.Value
			}
		}
		if y.Got+y.Paid > 0 {
			d.entries = append(d.entries, y)
		}
	}
	c.sortCoins()
	puts := c.coinPuts()
	if len(d.entries) > 0 {
		puts = append(puts, didPair(*c.body, d.made, d.spent, d.entries...))
		c.dids[c.next] = d
	}
	c.has = false
	c.batch(c.next, puts, c.gone(was))
}

func (c *plain) connect(n int) {
	p := &plainPeer{n: n, s: session.New(uint64(n)), since: c.clock}
	c.peers = append(c.peers, p)
	c.out = append(c.out, api.Sent{Peer: n, Bytes: p.s.Hello()})
	c.work()
}

func (c *plain) leave(n int) {
	c.forget(c.peer(n))
	c.work()
}

func (c *plain) tick() {
	c.clock++
	for _, p := range slices.Clone(c.peers) {
		if p.s.Late(c.clock) || !p.s.Ready() && c.clock >= p.since+20 {
			c.drop(p)
		}
	}
	if c.clock%10 == 0 {
		for _, p := range c.peers {
			p.done = false
		}
	}
	c.work()
}

func (c *plain) watch(s []byte) {
	if !slices.ContainsFunc(c.scripts, func(x []byte) bool { return bytes.Equal(s, x) }) {
		b := api.Batch{Puts: []api.Pair{scriptPair(len(c.scripts), s)}}
		first, _ := c.tree.At(c.cursor, 0)
		b.Puts = append(b.Puts, api.Pair{Key: "c", Value: first[:]})
		for _, x := range c.coins {
			b.Deletes = append(b.Deletes, keyOf(x.Point))
		}
		var dids []string
		for h := range c.dids {
			dids = append(dids, "d"+string(h[:]))
		}
		slices.Sort(dids)
		b.Deletes = append(b.Deletes, dids...)
		c.batches = append(c.batches, b)
		c.scripts = append(c.scripts, s)
		c.coins, c.dids, c.cursor, c.has = nil, map[api.Hash]plainDid{}, first, false
	}
	c.work()
}

func (c *plain) feed(n int, b []byte) {
	p := c.peer(n)
	told, back, e := p.s.Feed(b)
	if e != api.OK {
		c.drop(p)
		c.work()
		return
	}
	if len(back) > 0 {
		c.out = append(c.out, api.Sent{Peer: n, Bytes: back})
	}
	for _, m := range told {
		p.asks = nil
		c.hear(p, m)
	}
	c.work()
}

func (c *plain) hear(p *plainPeer, m api.Message) {
	of := m.Stop
	if m.Kind == api.MsgBlock {
		of = id(m.Block)
	}
	if m.Kind != api.MsgHeaders && m.Kind != api.MsgNotFound && (!c.has || of != c.next) {
		return
	}
	vote, voted := c.vote(p)
	goes := false
	switch m.Kind {
	case api.MsgHeaders:
		goes = c.hearHeaders(p, m.Headers)
	case api.MsgSums:
		goes = len(m.Hashes) != 1
		if !goes {
			c.votes = append(c.votes, plainVote{p, m.Hashes[0]})
		}
	case api.MsgFilter:
		_, e := filter.Values(m.Bytes)
		switch {
		case !voted:
		case c.body != nil:
			goes = votes.Lies(*c.body, m.Bytes, vote)
		case filter.Sum(m.Bytes) != vote || e != api.OK:
			goes = true
		default:
			c.filter = m.Bytes
		}
	case api.MsgBlock:
		goes = block.Check(m.Block) != api.OK
		if !goes {
			c.body = &m.Block
		}
	case api.MsgNotFound:
		goes = true
	}
	if goes {
		c.drop(p)
	}
}

func (c *plain) hearHeaders(p *plainPeer, l []api.Header) bool {
	var b api.Batch
	bad := false
	for _, h := range l {
		isNew, e := c.tree.Accept(h, math.MaxUint32)
		if e != api.OK {
			bad = true
			break
		}
		if isNew {
			c.count++
			b.Puts = append(b.Puts, api.Pair{Key: fmt.Sprintf("h%08d", c.count), Value: header.Encode(h)})
		}
	}
	p.done = len(b.Puts) == 0
	if !p.done {
		c.batches = append(c.batches, b)
	}
	return bad
}

// told is what a client that is as this one tells.
func (c *plain) told() string {
	h, _ := c.tree.Height(c.cursor)
	best, _ := c.tree.Height(c.tree.Tip())
	s := api.Status{State: api.StateBlocks, Cursor: c.cursor, Height: h, Best: best}
	switch {
	case c.wait():
		s.State = api.StateHeaders
	case c.cursor == c.tree.Tip():
		s.State = api.StateSynced
	}
	for _, x := range c.coins {
		s.Balance += x.Out.Value
	}
	var entries []api.Entry
	for i := range h + 1 {
		b, _ := c.tree.At(c.cursor, i)
		entries = append(entries, c.dids[b].entries...)
	}
	var numbers []int
	for _, p := range c.peers {
		numbers = append(numbers, p.n)
	}
	return fmt.Sprint(s, c.coins, entries, numbers, c.fetched, c.scripts, c.tree.All())
}

// pit holds a client against a plain one while random things happen.
type pit struct {
	t      *testing.T
	r      *rand.Rand
	params api.Params
	tape   *tape.Tape
	c      *client.Client
	plain  *plain
	blocks []api.Block // the first one ahead
	models []*model.Model
	phase  int
	asked  map[int][]api.Message
	bias   map[int]int // how each peer lies
	crowd  int         // peers at most
	log    []string
}

// forest is blocks in which transactions pay few scripts and spend what stands anywhere.
func forest(r *rand.Rand, n int) []api.Block {
	all := []api.Block{mine(api.Hash{}, 1000, pay(0, nil, script(0), script(1)))}
	spendable := points(at(all[0].Txs[0], 0), at(all[0].Txs[0], 1))
	for i := 1; len(all) < n; i++ {
		up := all[max(len(all)-1-r.Intn(6)/3*r.Intn(4), 0)]
		var txs []api.Tx
		for k := range 1 + r.Intn(3) {
			var spent []api.Point
			for range r.Intn(3) {
				spent = append(spent, spendable[len(spendable)-1-r.Intn(min(len(spendable), 8))])
			}
			x := pay(100*i+k, spent, script(r.Intn(5)), script(r.Intn(12)))
			txs = append(txs, x)
			spendable = append(spendable, at(x, 0), at(x, 1))
		}
		all = append(all, mine(id(up), up.Header.Time+1+uint32(r.Intn(5)), txs...))
	}
	return all
}

func newPit(t *testing.T, seed int64) *pit {
	r := rand.New(rand.NewSource(seed))
	x := &pit{t: t, r: r, blocks: forest(r, 10), asked: map[int][]api.Message{}, bias: map[int]int{}, crowd: 1 + r.Intn(5)}
	x.params = chainOf(x.blocks[0])
	for _, n := range []int{3 + r.Intn(4), len(x.blocks)} {
		m, e := model.New(x.params, x.blocks[1:n])
		want(t, "model", e, api.OK)
		x.models = append(x.models, m)
	}
	x.tape, _ = tape.New(room)
	x.plain = newPlain(x.params)
	x.open()
	return x
}

func (x *pit) open() {
	c, e := client.Open(x.params, x.tape)
	want(x.t, "open", e, api.OK)
	x.c, x.asked = c, map[int][]api.Message{}
}

// hold holds what a call sent, and all that the client tells, against the plain one's.
func (x *pit) hold(l []api.Sent, e api.Errno) {
	x.t.Helper()
	want(x.t, "call", e, api.OK)
	other := x.plain.sent()
	if fmt.Sprint(l) != fmt.Sprint(other) {
		x.fail("sent " + x.words(l) + ", not " + x.words(other))
	}
	for _, s := range l {
		if s.Drop {
			delete(x.asked, s.Peer)
		}
		for _, m := range messages(x.t, s.Bytes) {
			if m.Kind != api.MsgVerack && m.Kind != api.MsgPong {
				x.asked[s.Peer] = append(x.asked[s.Peer], m)
			}
		}
	}
	if got, want := state(x.c), x.plain.told(); got != want {
		n := 0
		for n < min(len(got), len(want)) && got[n] == want[n] {
			n++
		}
		x.fail(fmt.Sprintf("tells from place %d on\n%.300s, not\n%.300s", n, got[n:], want[n:]))
	}
}

// holdBatches holds all that the tape has against the plain one's batches.
func (x *pit) holdBatches() {
	x.t.Helper()
	if got := batches(x.t, x.tape); fmt.Sprintf("%x", got) != fmt.Sprintf("%x", x.plain.batches) {
		x.fail(fmt.Sprintf("%d batches\n%x, not %d\n%x", len(got), got, len(x.plain.batches), x.plain.batches))
	}
}

func (x *pit) words(l []api.Sent) string {
	var lines []string
	for _, s := range l {
		line := fmt.Sprint(s.Peer, s.Drop)
		for _, m := range messages(x.t, s.Bytes) {
			line += " " + textOf(m)
		}
		lines = append(lines, line)
	}
	return strings.Join(lines, "; ")
}

func (x *pit) fail(text string) {
	x.t.Helper()
	x.t.Fatal(strings.Join(x.log, "\n"), "\n", text)
}

func (x *pit) note(l ...any) {
	x.log = append(x.log, fmt.Sprint(l...))
}

func (x *pit) step() {
	x.t.Helper()
	n := x.r.Intn(x.crowd)
	here := x.plain.peer(n) != nil
	switch k := x.r.Intn(200); {
	case k < 12 && !here:
		x.note("connect ", n)
		x.bias[n] = max(x.r.Intn(11)-5, 0)
		x.plain.connect(n)
		x.hold(x.c.Connect(n))
	case k < 13 && here:
		x.note("gone ", n)
		x.plain.leave(n)
		delete(x.asked, n)
		x.hold(x.c.Gone(n))
	case k < 19:
		for range 1 + k/18*9 {
			x.note("tick")
			x.plain.tick()
			x.hold(x.c.Tick())
		}
	case k < 20:
		s := script(x.r.Intn(4))
		x.note("watch ", s)
		x.plain.watch(s)
		x.hold(x.c.Watch(s))
	case k < 21 && x.r.Intn(3) == 0:
		x.note("open")
		x.holdBatches()
		x.plain.reopen()
		x.open()
		x.hold(nil, api.OK)
	case k < 23:
		x.phase = 1
	case here:
		x.talk(n)
	}
}

// talk has a peer answer what it was asked, truly or not, or say something else.
func (x *pit) talk(n int) {
	x.t.Helper()
	var l []api.Message
	switch {
	case x.r.Intn(40) == 0:
		l = []api.Message{{Kind: api.MsgPing, Nonce: 5}}
	case x.r.Intn(150) == 0:
		l = []api.Message{{Kind: api.MsgVersion}}
	case len(x.asked[n]) == 0:
		return
	default:
		l = x.answer(n, x.asked[n][0])
		x.asked[n] = x.asked[n][1:]
	}
	var b []byte
	for _, m := range l {
		one, e := message.Bytes(m)
		want(x.t, "bytes", e, api.OK)
		b = append(b, one...)
		x.note(n, " says kind ", m.Kind, " of ", fmt.Sprintf("%x", m.Stop[:3]))
	}
	x.plain.feed(n, b)
	x.hold(x.c.Feed(n, b))
}

// answer is what a peer says to a message: mostly what is true.
func (x *pit) answer(n int, m api.Message) []api.Message {
	l := x.models[x.phase].Answer(m)
	if len(l) == 0 || l[0].Kind == api.MsgNotFound {
		l = x.models[1].Answer(m)
	}
	odd := x.r.Intn(12) == 0
	switch m.Kind {
	case api.MsgGetHeaders:
		if odd {
			return []api.Message{x.oddHeaders()}
		}
	case api.MsgGetSums:
		l[0].Hashes = []api.Hash{filter.Sum(x.filterOf(m.Stop, x.bias[n]))}
		if odd && x.r.Intn(3) == 0 {
			l[0].Hashes = append(l[0].Hashes, api.Hash{})[:x.r.Intn(2)*2]
		}
	case api.MsgGetFilter:
		l = l[:1]
		l[0].Bytes = x.filterOf(m.Stop, x.bias[n])
		if odd {
			l[0].Bytes = x.filterOf(m.Stop, x.r.Intn(8))
		}
	case api.MsgGetData:
		switch {
		case odd && x.r.Intn(2) == 0:
			return []api.Message{{Kind: api.MsgNotFound, Hashes: m.Hashes}}
		case odd:
			l[0].Block.Txs = l[0].Block.Txs[1:]
		}
	}
	return l
}

func (x *pit) filterOf(h api.Hash, bias int) []byte {
	return filterBy(x.models[1], h, bias)
}

// filterBy is a block's filter, as liars of several kinds tell it.
func filterBy(m *model.Model, h api.Hash, bias int) []byte {
	f, _ := m.Filter(h)
	b, _ := m.Block(h)
	items := filter.Items(b, nil)
	switch bias {
	case 1:
		return empty
	case 2:
		f, _ = filter.Build(h, append(items, script(0), script(1), script(2), script(3)))
	case 3:
		return append(f, 1)
	case 4:
		f, _ = filter.Build(h, items)
	case 5:
		f, _ = filter.Build(h, items[:len(items)/2])
	}
	return f
}

// oddHeaders is headers some of which may not be taken.
func (x *pit) oddHeaders() api.Message {
	var l []api.Block
	for range x.r.Intn(5) {
		l = append(l, x.blocks[x.r.Intn(len(x.blocks))])
	}
	if x.r.Intn(3) == 0 {
		l = x.blocks[:1+x.r.Intn(len(x.blocks))]
	}
	return headersTold(l...)
}

// Whatever happens, the client sends, tells and writes what the plain one does.
func TestPlain(t *testing.T) {
	deep := map[string]int{}
	for seed := range int64(400) {
		x := newPit(t, seed)
		for range 200 {
			x.step()
		}
		x.holdBatches()
		deep["fetched"] += len(x.c.Fetched())
		deep["history"] += len(x.c.History())
		deep["batches"] += len(x.plain.batches)
		deep["synced"] += x.c.Status().State / api.StateSynced
	}
	t.Log(deep)
}
