package world_test

import (
	"encoding/binary"
	"fmt"
	"math"
	"testing"

	"sporran/api"
	"sporran/block"
	"sporran/filter"
	"sporran/frame"
	"sporran/header"
	"sporran/message"
	"sporran/model"
	"sporran/target"
	"sporran/tx"
	"sporran/world"
)

const (
	easy = 0x207fffff // bits that every second header meets
	room = 1 << 20
)

func want(t testing.TB, name string, got, want api.Errno) {
	t.Helper()
	if got != want {
		t.Errorf("%s: %v, not %v", name, got, want)
	}
}

func same[T any](t testing.TB, name string, got, want T) {
	t.Helper()
	if fmt.Sprint(got) != fmt.Sprint(want) {
		t.Errorf("%s:\n%v, not\n%v", name, got, want)
	}
}

// mine is a block behind a header, with enough work.
func mine(prev api.Hash, time uint32, txs ...api.Tx) api.Block {
	b := api.Block{Header: api.Header{Version: 1, Prev: prev, Time: time, Bits: easy}, Txs: txs}
	var ids []api.Hash
	for _, x := range txs {
		ids = append(ids, txID(x))
	}
	b.Header.Merkle, _ = block.Merkle(ids)
	for !target.Meets(id(b), b.Header.Bits) {
		b.Header.Nonce++
	}
	return b
}

func id(b api.Block) api.Hash {
	return header.ID(b.Header)
}

func txID(x api.Tx) api.Hash {
	h, e := tx.ID(x)
	if e != api.OK {
		panic(e)
	}
	return h
}

// pay is a transaction that spends points, and pays 5 to a first script, 6 to the next one, and so on; unlike for each n.
func pay(n int, spent []api.Point, scripts ...[]byte) api.Tx {
	x := api.Tx{Lock: uint32(n)}
	for _, p := range spent {
		x.In = append(x.In, api.In{Prev: p, Script: []byte{7}})
	}
	if len(spent) == 0 {
		x.In = []api.In{{Prev: api.Point{Index: math.MaxUint32}}}
	}
	for i, s := range scripts {
		x.Out = append(x.Out, api.Out{Value: int64(5 + i), Script: s})
	}
	return x
}

func at(x api.Tx, place uint32) api.Point {
	return api.Point{ID: txID(x), Index: place}
}

func points(l ...api.Point) []api.Point {
	return l
}

func coin(x api.Tx, place uint32, height int) api.Coin {
	return api.Coin{Point: at(x, place), Out: x.Out[place], Height: height}
}

func script(n int) []byte {
	return binary.BigEndian.AppendUint32([]byte{0x51}, uint32(n))
}

// Scripts that the tests watch, and one that nobody watches.
var (
	mineOne = script(1)
	mineTwo = script(2)
	foreign = script(9)
)

// The blocks of the tests: g; a1 of no interest, a2 that pays mineOne, a3 that spends that and pays it mineTwo, a4 of no interest; and, behind a1, b2 of no interest, b3 that pays mineOne, b4, b5 of no interest.
var (
	g = mine(api.Hash{}, 1000, pay(0, nil, foreign))

	payA2 = pay(2, nil, mineOne, foreign)
	payA3 = pay(3, points(at(payA2, 0), at(payA2, 1)), mineTwo, foreign)
	a1    = mine(id(g), 1010, pay(1, nil, foreign))
	a2    = mine(id(a1), 1020, pay(12, nil, foreign), payA2)
	a3    = mine(id(a2), 1030, payA3)
	a4    = mine(id(a3), 1040, pay(4, nil, foreign))

	payB3 = pay(23, nil, mineOne)
	b2    = mine(id(a1), 1021, pay(22, nil, foreign))
	b3    = mine(id(b2), 1031, payB3)
	b4    = mine(id(b3), 1041, pay(24, nil, foreign))
	b5    = mine(id(b4), 1051, pay(25, nil, foreign))
)

func chainOf(first api.Block) api.Params {
	return api.Params{Genesis: first, Limit: easy}
}

// rig is a world, and a model of the same blocks.
type rig struct {
	t *testing.T
	*world.World
	m *model.Model
}

// start is one of blocks behind g; nobody is there, nothing is watched.
func start(t *testing.T, blocks ...api.Block) *rig {
	t.Helper()
	return startOf(t, chainOf(g), blocks)
}

func startOf(t *testing.T, p api.Params, blocks []api.Block) *rig {
	t.Helper()
	w, e := world.New(p, blocks, room)
	if e != api.OK {
		t.Fatal("world", e)
	}
	m, e := model.New(p, blocks)
	if e != api.OK {
		t.Fatal("model", e)
	}
	return &rig{t, w, m}
}

// The steps, by their names.

func connect(n int) api.Step { return api.Step{Kind: api.StepConnect, N: n} }
func serve(n int) api.Step   { return api.Step{Kind: api.StepServe, N: n} }
func drop(n int) api.Step    { return api.Step{Kind: api.StepDrop, N: n} }
func tick(n int) api.Step    { return api.Step{Kind: api.StepTick, N: n} }
func crash(n int) api.Step   { return api.Step{Kind: api.StepCrash, N: n} }
func begin() api.Step        { return api.Step{Kind: api.StepStart} }
func fuse(n int) api.Step    { return api.Step{Kind: api.StepFuse, N: n} }
func limit(n int) api.Step   { return api.Step{Kind: api.StepRoom, N: n} }
func settle(n int) api.Step  { return api.Step{Kind: api.StepSettle, N: n} }
func lose(n int) api.Step    { return api.Step{Kind: api.StepLose, N: n} }

func watch(s []byte) api.Step {
	return api.Step{Kind: api.StepWatch, Bytes: s}
}

func inject(n int, m api.Message) api.Step {
	return api.Step{Kind: api.StepInject, N: n, Message: m}
}

func feed(n int, b ...byte) api.Step {
	return api.Step{Kind: api.StepBytes, N: n, Bytes: b}
}

// does does steps, all of them OK.
func (r *rig) does(l ...api.Step) {
	r.t.Helper()
	for i, s := range l {
		if e := r.Do(s); e != api.OK {
			r.t.Fatalf("step %d (kind %d, %d): %v", i, s.Kind, s.N, e)
		}
	}
}

// fails does a step with an error, and asks whether all is as it was.
func (r *rig) fails(name string, s api.Step, e api.Errno) {
	r.t.Helper()
	before := r.all()
	want(r.t, name, r.Do(s), e)
	same(r.t, name, r.all(), before)
}

// all is all that a world tells, but for what its peers have not answered.
func (r *rig) all() string {
	text := fmt.Sprintf("%x %d", r.Tape().Bytes(), r.Tape().Synced())
	for n := range 8 {
		text += fmt.Sprintf(" %x", r.Out(n))
	}
	return text + fmt.Sprint(r.Bodies()) + r.told()
}

// told is all that the client tells.
func (r *rig) told() string {
	c := r.Client()
	if c == nil {
		return "none"
	}
	return fmt.Sprint(c.Status(), c.Coins(), c.History(), c.Peers(), c.Fetched(), c.Watched(), c.Tree().All())
}

// waiting is how many messages a peer has: it has none, then.
func (r *rig) waiting(n int) int {
	count := 0
	for r.Do(lose(n)) == api.OK {
		count++
	}
	return count
}

// hello has a peer come and say hello: it has one message then, MsgGetHeaders.
func (r *rig) hello(n int) {
	r.t.Helper()
	r.does(connect(n), serve(n), serve(n))
}

// serves has a peer answer so many messages.
func (r *rig) serves(n, count int) {
	r.t.Helper()
	for range count {
		r.does(serve(n))
	}
}

// sent is the messages that a peer was sent, from the beginning on.
func (r *rig) sent(n int) []api.Message {
	r.t.Helper()
	return messagesOf(r.t, r.Out(n))
}

func messagesOf(t testing.TB, b []byte) []api.Message {
	t.Helper()
	reader := frame.New()
	frames, e := reader.Feed(b)
	if e != api.OK || reader.Left() > 0 {
		t.Errorf("%x: %v, %d left", b, e, reader.Left())
	}
	var l []api.Message
	for _, f := range frames {
		m, known, e := message.Decode(f)
		if !known || e != api.OK {
			t.Errorf("%v: %v", f, e)
		}
		l = append(l, m)
	}
	return l
}

// kinds are those of messages.
func kinds(l []api.Message) []int {
	var all []int
	for _, m := range l {
		all = append(all, m.Kind)
	}
	return all
}

func bytesOf(t testing.TB, l ...api.Message) []byte {
	t.Helper()
	var b []byte
	for _, m := range l {
		one, e := message.Bytes(m)
		if e != api.OK {
			t.Fatal(e)
		}
		b = append(b, one...)
	}
	return b
}

// What peers say.
var (
	version = api.Message{Kind: api.MsgVersion, Number: 70015}
	verack  = api.Message{Kind: api.MsgVerack}
	ping    = api.Message{Kind: api.MsgPing, Nonce: 77}
)

func bodyTold(b api.Block) api.Message {
	return api.Message{Kind: api.MsgBlock, Block: b}
}

func headersTold(blocks ...api.Block) api.Message {
	m := api.Message{Kind: api.MsgHeaders}
	for _, b := range blocks {
		m.Headers = append(m.Headers, b.Header)
	}
	return m
}

func sumsTold(h api.Hash, f []byte) api.Message {
	return api.Message{Kind: api.MsgSums, Stop: h, Hashes: []api.Hash{filter.Sum(f)}}
}

func filterTold(h api.Hash, f []byte) api.Message {
	return api.Message{Kind: api.MsgFilter, Stop: h, Bytes: f}
}

// empty is the filter of no items.
var empty = []byte{0}

// wantAt asks where the client is, and what it has.
func (r *rig) wantAt(name string, state int, cursor api.Block, coins ...api.Coin) {
	r.t.Helper()
	s := r.Client().Status()
	if s.State != state || s.Cursor != id(cursor) {
		r.t.Errorf("%s: state %d at height %d, not %d", name, s.State, s.Height, state)
	}
	var sum int64
	for _, c := range coins {
		sum += c.Out.Value
	}
	if s.Balance != sum || s.Overflow {
		r.t.Errorf("%s: balance %d, not %d", name, s.Balance, sum)
	}
	same(r.t, name, r.Client().Coins(), coins)
}

// wantBodies holds blocks against each other; of those that are unlike it tells the IDs and how many transactions they have.
func wantBodies(t *testing.T, name string, got []api.Block, want ...api.Block) {
	t.Helper()
	if fmt.Sprint(got) != fmt.Sprint(want) {
		t.Errorf("%s: %v, not %v", name, shorts(got), shorts(want))
	}
}

func shorts(l []api.Block) []string {
	var all []string
	for _, b := range l {
		h := id(b)
		all = append(all, fmt.Sprintf("%x:%d", h[:3], len(b.Txs)))
	}
	return all
}
