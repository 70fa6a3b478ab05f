package client_test

import (
	"encoding/binary"
	"fmt"
	"math"
	"slices"
	"strings"
	"testing"

	"sporran/api"
	"sporran/block"
	"sporran/client"
	"sporran/filter"
	"sporran/frame"
	"sporran/header"
	"sporran/message"
	"sporran/model"
	"sporran/size"
	"sporran/tape"
	"sporran/target"
	"sporran/tx"
)

const (
	easy = 0x207fffff // bits that every second header meets
	room = 1 << 22
)

func want(t testing.TB, name string, got, want api.Errno) {
	t.Helper()
	if got != want {
		t.Errorf("%s: %v, not %v", name, got, want)
	}
}

func same[T any](t testing.TB, name string, got, want T) {
	t.Helper()
	if fmt.Sprint(got) != fmt.Sprint(want) {
		t.Errorf("%s:\n%v, not\n%v", name, got, want)
	}
}

// mine is a block behind a header, with enough work.
func mine(prev api.Hash, time uint32, txs ...api.Tx) api.Block {
	b := api.Block{Header: api.Header{Version: 1, Prev: prev, Time: time, Bits: easy}, Txs: txs}
	var ids []api.Hash
	for _, x := range txs {
		ids = append(ids, txID(x))
	}
	b.Header.Merkle, _ = block.Merkle(ids)
	return work(b)
}

func work(b api.Block) api.Block {
	for !target.Meets(id(b), b.Header.Bits) {
		b.Header.Nonce++
	}
	return b
}

func id(b api.Block) api.Hash {
	return header.ID(b.Header)
}

func txID(x api.Tx) api.Hash {
	h, e := tx.ID(x)
	if e != api.OK {
		panic(e)
	}
	return h
}

// pay is a transaction that spends points, and pays 5 to a first script, 6 to the next one, and so on; unlike for each n.
func pay(n int, spent []api.Point, scripts ...[]byte) api.Tx {
	x := api.Tx{Lock: uint32(n)}
	for _, p := range spent {
		x.In = append(x.In, api.In{Prev: p, Script: []byte{7}})
	}
	if len(spent) == 0 {
		x.In = []api.In{{Prev: api.Point{Index: math.MaxUint32}}}
	}
	for i, s := range scripts {
		x.Out = append(x.Out, api.Out{Value: int64(5 + i), Script: s})
	}
	return x
}

func at(x api.Tx, place uint32) api.Point {
	return api.Point{ID: txID(x), Index: place}
}

func points(l ...api.Point) []api.Point {
	return l
}

func coin(x api.Tx, place uint32, height int) api.Coin {
	return api.Coin{Point: at(x, place), Out: x.Out[place], Height: height}
}

func script(n int) []byte {
	return binary.BigEndian.AppendUint32([]byte{0x51}, uint32(n))
}

// Scripts that the tests watch, and one that nobody watches.
var (
	mineOne = script(1)
	mineTwo = script(2)
	foreign = script(9)
)

// The blocks of the tests: g; a1 of no interest, a2 that pays mineOne, a3 that spends that and pays it mineTwo, a4 of no interest; and, behind a1, b2 of no interest, b3 that pays mineOne, b4, b5 of no interest.
var (
	g = mine(api.Hash{}, 1000, pay(0, nil, foreign))

	payA2 = pay(2, nil, mineOne, foreign)
	payA3 = pay(3, points(at(payA2, 0), at(payA2, 1)), mineTwo, foreign)
	a1    = mine(id(g), 1010, pay(1, nil, foreign))
	a2    = mine(id(a1), 1020, pay(12, nil, foreign), payA2)
	a3    = mine(id(a2), 1030, payA3)
	a4    = mine(id(a3), 1040, pay(4, nil, foreign))

	payB3 = pay(23, nil, mineOne)
	b2    = mine(id(a1), 1021, pay(22, nil, foreign))
	b3    = mine(id(b2), 1031, payB3)
	b4    = mine(id(b3), 1041, pay(24, nil, foreign))
	b5    = mine(id(b4), 1051, pay(25, nil, foreign))
)

// named are the blocks by their names.
func named() map[string]api.Block {
	return map[string]api.Block{"g": g, "a1": a1, "a2": a2, "a3": a3, "a4": a4, "b2": b2, "b3": b3, "b4": b4, "b5": b5}
}

// nameOf is what stands for a block in what tests want.
func nameOf(h api.Hash) string {
	for name, b := range named() {
		if id(b) == h {
			return name
		}
	}
	return fmt.Sprintf("%x", h[:4])
}

func chainOf(first api.Block) api.Params {
	return api.Params{Genesis: first, Limit: easy}
}

func modelOf(t testing.TB, blocks ...api.Block) *model.Model {
	t.Helper()
	m, e := model.New(chainOf(g), blocks)
	if e != api.OK {
		t.Fatal(e)
	}
	return m
}

// rig is a client, its tape, and peers for which a model speaks.
type rig struct {
	t     *testing.T
	p     api.Params
	tape  *tape.Tape
	c     *client.Client
	m     *model.Model
	asked map[int][]api.Message // of each peer, what it has not answered
}

// start is one of a chain of blocks; the client watches mineOne, mineTwo.
func start(t *testing.T, blocks ...api.Block) *rig {
	t.Helper()
	r := plainStart(t, blocks...)
	r.watch(mineOne)
	r.watch(mineTwo)
	return r
}

// plainStart is one whose client watches nothing.
func plainStart(t *testing.T, blocks ...api.Block) *rig {
	t.Helper()
	r := &rig{t: t, p: chainOf(g), m: modelOf(t, blocks...)}
	r.tape, _ = tape.New(room)
	r.open()
	return r
}

// open opens the client anew.
func (r *rig) open() {
	r.t.Helper()
	c, e := client.Open(r.p, r.tape)
	if e != api.OK {
		r.t.Fatal("Open", e)
	}
	r.c, r.asked = c, map[int][]api.Message{}
}

// heard keeps what peers were sent, and is it as text.
func (r *rig) heard(l []api.Sent, e api.Errno) string {
	r.t.Helper()
	if e != api.OK {
		r.t.Helper()
		r.t.Errorf("%v, not OK", e)
	}
	var lines []string
	for _, s := range l {
		line := fmt.Sprint(s.Peer)
		if s.Drop {
			line += " goes"
			delete(r.asked, s.Peer)
		}
		if s.Drop != (len(s.Bytes) == 0) {
			r.t.Errorf("%d: drop %v, and %d bytes", s.Peer, s.Drop, len(s.Bytes))
		}
		for _, m := range messages(r.t, s.Bytes) {
			r.asked[s.Peer] = append(r.asked[s.Peer], m)
			line += " " + textOf(m)
		}
		lines = append(lines, line)
	}
	return strings.Join(lines, "; ")
}

// messages is those of bytes, all of them whole.
func messages(t testing.TB, b []byte) []api.Message {
	t.Helper()
	reader := frame.New()
	frames, e := reader.Feed(b)
	if e != api.OK || reader.Left() > 0 {
		t.Errorf("%x: %v, %d left", b, e, reader.Left())
	}
	var l []api.Message
	for _, f := range frames {
		m, known, e := message.Decode(f)
		if !known || e != api.OK {
			t.Errorf("%v: %v", f, e)
		}
		l = append(l, m)
	}
	return l
}

// textOf is a message to a peer, as tests want it.
func textOf(m api.Message) string {
	switch m.Kind {
	case api.MsgVersion:
		return fmt.Sprint("version ", m.Number, " ", m.Nonce)
	case api.MsgVerack:
		return "verack"
	case api.MsgPong:
		return fmt.Sprint("pong ", m.Nonce)
	case api.MsgGetHeaders:
		text := "headers"
		if m.Number != 70015 || m.Stop != (api.Hash{}) {
			text += fmt.Sprint("?", m.Number, m.Stop)
		}
		for _, h := range m.Hashes {
			text += " " + nameOf(h)
		}
		return text
	case api.MsgGetSums:
		return fmt.Sprint("sums ", m.Number, " ", nameOf(m.Stop))
	case api.MsgGetFilter:
		return fmt.Sprint("filter ", m.Number, " ", nameOf(m.Stop))
	case api.MsgGetData:
		text := "block"
		for _, h := range m.Hashes {
			text += " " + nameOf(h)
		}
		return text
	}
	return fmt.Sprint("kind ", m.Kind)
}

// wants holds what a call sent against text.
func (r *rig) wants(name, got, want string) {
	r.t.Helper()
	if got != want {
		r.t.Errorf("%s: sent\n%s, not\n%s", name, got, want)
	}
}

func (r *rig) connect(peer int) string {
	r.t.Helper()
	return r.heard(r.c.Connect(peer))
}

func (r *rig) gone(peer int) string {
	r.t.Helper()
	delete(r.asked, peer)
	return r.heard(r.c.Gone(peer))
}

func (r *rig) watch(script []byte) string {
	r.t.Helper()
	return r.heard(r.c.Watch(script))
}

func (r *rig) tick(n int) string {
	r.t.Helper()
	var all []string
	for range n {
		if line := r.heard(r.c.Tick()); line != "" {
			all = append(all, line)
		}
	}
	return strings.Join(all, "; ")
}

// say feeds messages of a peer, all at once. What it says last answers what it was asked last.
func (r *rig) say(peer int, l ...api.Message) string {
	r.t.Helper()
	var b []byte
	for _, m := range l {
		one, e := message.Bytes(m)
		if e != api.OK {
			r.t.Fatal(e)
		}
		b = append(b, one...)
	}
	delete(r.asked, peer)
	return r.heard(r.c.Feed(peer, b))
}

// serve has a peer answer the first thing that it was asked as the model does.
func (r *rig) serve(peer int) string {
	r.t.Helper()
	if len(r.asked[peer]) == 0 {
		r.t.Fatalf("%d was not asked", peer)
	}
	m := r.asked[peer][0]
	left := r.asked[peer][1:]
	var all []string
	for _, x := range r.m.Answer(m) {
		b, e := message.Bytes(x)
		if e != api.OK {
			r.t.Fatal(e)
		}
		r.asked[peer] = left
		if line := r.heard(r.c.Feed(peer, b)); line != "" {
			all = append(all, line)
		}
		left = r.asked[peer]
	}
	return strings.Join(all, "; ")
}

// meet has peers come, say hello and tell all headers; they answer nothing else.
func (r *rig) meet(peers ...int) {
	r.t.Helper()
	for _, n := range peers {
		r.connect(n)
		r.say(n, api.Message{Kind: api.MsgVersion, Number: 70015}, api.Message{Kind: api.MsgVerack})
		for len(r.asked[n]) > 0 && r.asked[n][len(r.asked[n])-1].Kind == api.MsgGetHeaders {
			r.asked[n] = r.asked[n][len(r.asked[n])-1:]
			r.serve(n)
		}
		r.asked[n] = slices.DeleteFunc(r.asked[n], func(m api.Message) bool { return m.Kind == api.MsgVerack })
	}
}

// settle has all peers answer all that they are asked.
func (r *rig) settle() {
	r.t.Helper()
	for again := true; again; {
		again = false
		for _, n := range r.c.Peers() {
			for len(r.asked[n]) > 0 {
				again = true
				if len(r.m.Answer(r.asked[n][0])) == 0 {
					r.asked[n] = r.asked[n][1:]
					continue
				}
				r.serve(n)
			}
		}
	}
}

// sumsOf is what a peer says of a block's filter, honestly.
func (r *rig) sumsOf(b api.Block) api.Message {
	return api.Message{Kind: api.MsgSums, Stop: id(b), Hashes: []api.Hash{filter.Sum(r.filterOf(b))}}
}

func (r *rig) filterOf(b api.Block) []byte {
	f, ok := r.m.Filter(id(b))
	if !ok {
		r.t.Fatal("no filter")
	}
	return f
}

// lie is the message of a sum that is none of a true filter.
func lie(b api.Block, f []byte) api.Message {
	return api.Message{Kind: api.MsgSums, Stop: id(b), Hashes: []api.Hash{filter.Sum(f)}}
}

func filterTold(b api.Block, f []byte) api.Message {
	return api.Message{Kind: api.MsgFilter, Stop: id(b), Bytes: f}
}

func bodyTold(b api.Block) api.Message {
	return api.Message{Kind: api.MsgBlock, Block: b}
}

func headersTold(blocks ...api.Block) api.Message {
	m := api.Message{Kind: api.MsgHeaders}
	for _, b := range blocks {
		m.Headers = append(m.Headers, b.Header)
	}
	return m
}

// empty is the filter of no items.
var empty = []byte{0}

// wantAt asks where the client is.
func (r *rig) wantAt(name string, state int, cursor api.Block, coins ...api.Coin) {
	r.t.Helper()
	s := r.c.Status()
	if s.State != state || s.Cursor != id(cursor) {
		r.t.Errorf("%s: state %d at %s, not %d at %s", name, s.State, nameOf(s.Cursor), state, nameOf(id(cursor)))
	}
	r.wantCoins(name, coins...)
}

func (r *rig) wantCoins(name string, coins ...api.Coin) {
	r.t.Helper()
	slices.SortFunc(coins, func(a, b api.Coin) int {
		return strings.Compare(keyOf(a.Point), keyOf(b.Point))
	})
	same(r.t, name+": coins", r.c.Coins(), coins)
	var sum int64
	for _, c := range coins {
		sum += c.Out.Value
	}
	if s := r.c.Status(); s.Balance != sum || s.Overflow {
		r.t.Errorf("%s: balance %d, not %d", name, s.Balance, sum)
	}
}

// What stands in a journal, as chapter 21 says it.

func keyOf(p api.Point) string {
	return "u" + string(p.ID[:]) + string(binary.BigEndian.AppendUint32(nil, p.Index))
}

func didKeyOf(b api.Block) string {
	h := id(b)
	return "d" + string(h[:])
}

func longs(b []byte, l ...uint64) []byte {
	for _, n := range l {
		b = binary.BigEndian.AppendUint64(b, n)
	}
	return b
}

func shorts(b []byte, l ...uint32) []byte {
	for _, n := range l {
		b = binary.BigEndian.AppendUint32(b, n)
	}
	return b
}

func pair(key string, value []byte) api.Pair {
	return api.Pair{Key: key, Value: value}
}

func headerPair(n int, b api.Block) api.Pair {
	return pair(fmt.Sprintf("h%08d", n), header.Encode(b.Header))
}

func scriptPair(n int, s []byte) api.Pair {
	return pair(fmt.Sprintf("w%03d", n), s)
}

func cursorPair(b api.Block) api.Pair {
	h := id(b)
	return pair("c", h[:])
}

func coinPair(c api.Coin) api.Pair {
	return pair(keyOf(c.Point), append(longs(nil, uint64(c.Out.Value), uint64(c.Height)), c.Out.Script...))
}

func didPair(b api.Block, made, spent []api.Coin, entries ...api.Entry) api.Pair {
	v := shorts(nil, uint32(len(made)), uint32(len(spent)), uint32(len(entries)))
	for _, c := range slices.Concat(made, spent) {
		v = shorts(append(v, c.Point.ID[:]...), c.Point.Index)
		v = shorts(longs(v, uint64(c.Out.Value), uint64(c.Height)), uint32(len(c.Out.Script)))
		v = append(v, c.Out.Script...)
	}
	for _, x := range entries {
		v = longs(append(v, x.ID[:]...), uint64(x.Height), uint64(x.Got), uint64(x.Paid))
	}
	return pair(didKeyOf(b), v)
}

func puts(l ...api.Pair) api.Batch {
	return api.Batch{Puts: l}
}

// batches is those of a tape, each frame whole.
func batches(t testing.TB, x *tape.Tape) []api.Batch {
	t.Helper()
	b := x.Bytes()
	var all []api.Batch
	for len(b) > 0 {
		n := binary.LittleEndian.Uint32(b)
		all = append(all, batchOf(t, b[12:12+n]))
		b = b[12+n:]
	}
	return all
}

func batchOf(t testing.TB, b []byte) api.Batch {
	t.Helper()
	var one api.Batch
	text := func() []byte {
		s, rest, e := size.ReadText(b, len(b))
		if e != api.OK {
			t.Fatal(e)
		}
		b = rest
		return s
	}
	count := func() uint64 {
		n, rest, e := size.Decode(b)
		if e != api.OK {
			t.Fatal(e)
		}
		b = rest
		return n
	}
	for range count() {
		key := text()
		one.Puts = append(one.Puts, api.Pair{Key: string(key), Value: text()})
	}
	for range count() {
		one.Deletes = append(one.Deletes, string(text()))
	}
	return one
}

// wantBatches asks which batches came since there were so many.
func (r *rig) wantBatches(name string, since int, want ...api.Batch) {
	r.t.Helper()
	got := batches(r.t, r.tape)[since:]
	if len(got) != len(want) {
		r.t.Errorf("%s: %d batches, not %d", name, len(got), len(want))
	}
	for i := range min(len(got), len(want)) {
		if fmt.Sprintf("%x", got[i]) != fmt.Sprintf("%x", want[i]) {
			r.t.Errorf("%s: batch %d\n%x, not\n%x", name, i, got[i], want[i])
		}
	}
	if r.tape.Synced() != len(r.tape.Bytes()) {
		r.t.Error("not synced")
	}
}

func (r *rig) count() int {
	return len(batches(r.t, r.tape))
}

// state is all that a client tells.
func state(c *client.Client) string {
	return fmt.Sprint(c.Status(), c.Coins(), c.History(), c.Peers(), c.Fetched(), c.Watched(), c.Tree().All())
}

// lasting is what of that a client has that opens anew.
func lasting(c *client.Client) string {
	s := c.Status()
	s.State = 0
	return fmt.Sprint(s, c.Coins(), c.History(), c.Watched(), c.Tree().All())
}
