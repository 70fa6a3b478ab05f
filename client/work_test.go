package client_test

import (
	"slices"
	"testing"

	"sporran/api"
	"sporran/filter"
)

var (
	version = api.Message{Kind: api.MsgVersion, Number: 1, Nonce: 3}
	verack  = api.Message{Kind: api.MsgVerack}
	none    = api.Message{Kind: api.MsgHeaders}
)

// Example 1: no script is watched: no filter is asked for, the cursor goes to the tip.
func TestNoScript(t *testing.T) {
	r := plainStart(t, a1, a2, a3)
	r.wants("connect", r.connect(7), "7 version 70015 7")
	r.wants("version", r.say(7, version), "7 verack")
	r.wants("verack", r.say(7, verack), "7 headers g")
	r.wants("headers", r.say(7, headersTold(a1, a2)), "7 headers a2 a1 g")
	r.wantAt("headers", api.StateHeaders, g)
	r.wants("more headers", r.say(7, headersTold(a3)), "7 headers a3 a2 a1 g")
	since := r.count()
	r.wants("no more", r.say(7, none), "")
	r.wantAt("no more", api.StateSynced, a3)
	r.wantBatches("no script", since, puts(cursorPair(a1)), puts(cursorPair(a2)), puts(cursorPair(a3)))
	same(t, "fetched", len(r.c.Fetched()), 0)
	same(t, "history", len(r.c.History()), 0)
}

// Example 2: a block with an output for a script that is watched: its filter matches, it is fetched, a coin is there.
func TestOnePeer(t *testing.T) {
	r := start(t, a1, a2, a3, a4)
	r.connect(3)
	r.wants("hello", r.say(3, version, verack), "3 verack; 3 headers g")
	r.wants("headers", r.say(3, headersTold(a1, a2, a3, a4)), "3 headers a4 a3 a2 a1 g")
	r.wantAt("headers", api.StateHeaders, g)
	r.wants("no more", r.say(3, none), "3 sums 1 a1")
	r.wantAt("headers are done", api.StateBlocks, g)
	since := r.count()
	r.wants("sum", r.serve(3), "3 filter 1 a1")
	r.wants("nothing matches", r.serve(3), "3 sums 2 a2")
	r.wantAt("passed", api.StateBlocks, a1)
	r.wantBatches("passed", since, puts(cursorPair(a1)))
	r.wants("sum", r.serve(3), "3 filter 2 a2")
	r.wants("matches", r.serve(3), "3 block a2")
	same(t, "fetched at once", r.c.Fetched(), []api.Hash{id(a2)})
	r.wantAt("fetched", api.StateBlocks, a1)
	since = r.count()
	r.wants("body", r.serve(3), "3 sums 3 a3")
	one := coin(payA2, 0, 2)
	r.wantAt("body", api.StateBlocks, a2, one)
	got := api.Entry{ID: txID(payA2), Height: 2, Got: 5}
	r.wantBatches("made", since, puts(cursorPair(a2), coinPair(one), didPair(a2, []api.Coin{one}, nil, got)))
	same(t, "history", r.c.History(), []api.Entry{got})
	r.serve(3)
	r.wants("matches by what it spends", r.serve(3), "3 block a3")
	since = r.count()
	r.wants("body", r.serve(3), "3 sums 4 a4")
	two := coin(payA3, 0, 3)
	r.wantAt("spent", api.StateBlocks, a3, two)
	paid := api.Entry{ID: txID(payA3), Height: 3, Got: 5, Paid: 5}
	r.wantBatches("spent", since, api.Batch{
		Puts:    []api.Pair{cursorPair(a3), coinPair(two), didPair(a3, []api.Coin{two}, []api.Coin{one}, paid)},
		Deletes: []string{keyOf(one.Point)},
	})
	same(t, "history", r.c.History(), []api.Entry{got, paid})
	r.serve(3)
	r.wants("the tip", r.serve(3), "")
	r.wantAt("the tip", api.StateSynced, a4, two)
	same(t, "fetched", r.c.Fetched(), []api.Hash{id(a2), id(a3)})
	r.open()
	r.wantAt("opened", api.StateHeaders, a4, two)
	same(t, "history, opened", r.c.History(), []api.Entry{got, paid})
	same(t, "fetched, opened", len(r.c.Fetched()), 0)
}

// A filter that matches too much: the body did nothing.
func TestBodyOfNothing(t *testing.T) {
	r := start(t, a1)
	r.meet(3)
	f, _ := filter.Build(id(a1), [][]byte{mineOne, foreign})
	r.wants("sum", r.say(3, lie(a1, f)), "3 filter 1 a1")
	r.wants("matches", r.say(3, filterTold(a1, f)), "3 block a1")
	since := r.count()
	r.wants("body", r.serve(3), "")
	r.wantAt("body", api.StateSynced, a1)
	r.wantBatches("nothing", since, puts(cursorPair(a1)))
}

// Example 3: two peers tell unlike sums: the block is fetched, whoever lied goes.
func TestSumsPart(t *testing.T) {
	r := start(t, a1, a2)
	r.meet(5, 4)
	r.say(5, r.sumsOf(a1))
	r.wants("one sum", r.say(4, r.sumsOf(a1)), "5 filter 1 a1")
	r.wants("passed", r.serve(5), "5 sums 2 a2; 4 sums 2 a2")
	r.wants("4 votes first", r.say(4, lie(a2, empty)), "")
	r.wants("two sums", r.say(5, r.sumsOf(a2)), "5 block a2")
	r.wants("body", r.serve(5), "5 filter 2 a2; 4 filter 2 a2")
	r.wants("true", r.serve(5), "")
	r.wantAt("4 owes", api.StateBlocks, a1)
	r.wants("a lie", r.say(4, filterTold(a2, empty)), "4 goes")
	r.wantAt("applied", api.StateSynced, a2, coin(payA2, 0, 2))
	same(t, "peers", r.c.Peers(), []int{5})
}

// No peer lies, as far as can be told: the body counts.
func TestSumsPartWithoutLie(t *testing.T) {
	r := start(t, a1)
	r.meet(0, 1)
	more, _ := filter.Build(id(a1), [][]byte{foreign, script(77)})
	r.say(1, lie(a1, more))
	r.wants("two sums", r.say(0, r.sumsOf(a1)), "0 block a1")
	r.wants("body", r.serve(0), "0 filter 1 a1; 1 filter 1 a1")
	r.wants("no lie", r.say(1, filterTold(a1, more)), "")
	since := r.count()
	r.wants("no lie either", r.serve(0), "")
	r.wantAt("both stay", api.StateSynced, a1)
	r.wantBatches("applied", since, puts(cursorPair(a1)))
	same(t, "peers", r.c.Peers(), []int{0, 1})
}

// Example 4: another way with more work: blocks are taken back, coins with them.
func TestOtherWay(t *testing.T) {
	r := start(t, a1, a2, a3)
	r.meet(1)
	r.settle()
	one, two := coin(payA2, 0, 2), coin(payA3, 0, 3)
	r.wantAt("first way", api.StateSynced, a3, two)
	since := r.count()
	r.m = modelOf(t, a1, a2, a3, b2, b3, b4)
	r.wants("asked once more", r.tick(10), "1 headers a3 a2 a1 g")
	r.wants("another way", r.serve(1), "1 headers b4 b3 b2 a1 g")
	r.wantAt("blocks wait", api.StateHeaders, a3, two)
	r.wants("back", r.serve(1), "1 sums 2 b2")
	r.wantAt("back", api.StateBlocks, a1)
	same(t, "history", len(r.c.History()), 0)
	r.wantBatches("back", since,
		puts(headerPair(4, b2), headerPair(5, b3), headerPair(6, b4)),
		api.Batch{Puts: []api.Pair{cursorPair(a2), coinPair(one)}, Deletes: []string{keyOf(two.Point), didKeyOf(a3)}},
		api.Batch{Puts: []api.Pair{cursorPair(a1)}, Deletes: []string{keyOf(one.Point), didKeyOf(a2)}},
	)
	r.settle()
	three := coin(payB3, 0, 3)
	r.wantAt("the other way", api.StateSynced, b4, three)
	same(t, "history", r.c.History(), []api.Entry{{ID: txID(payB3), Height: 3, Got: 5}})
	r.open()
	r.wantAt("opened", api.StateHeaders, b4, three)
}

// A block that did nothing is taken back by the cursor alone.
func TestBackOfNothing(t *testing.T) {
	r := start(t, a1, b2)
	r.meet(1)
	r.settle()
	r.wantAt("first way", api.StateSynced, b2)
	r.m = modelOf(t, a1, a2, a3, b2)
	r.tick(10)
	r.serve(1)
	since := r.count()
	r.wants("back", r.serve(1), "1 sums 2 a2")
	r.wantAt("back", api.StateBlocks, a1)
	r.wantBatches("back", since, puts(cursorPair(a1)))
}

// Example 5: a script is watched later: all is looked through from the first block on.
func TestWatchLater(t *testing.T) {
	r := plainStart(t, a1, a2)
	r.watch(mineOne)
	r.meet(1)
	r.settle()
	one := coin(payA2, 0, 2)
	r.wantAt("one", api.StateSynced, a2, one)
	since := r.count()
	r.wants("watched already", r.watch(mineOne), "")
	r.wantBatches("watched already", since)
	r.wantAt("watched already", api.StateSynced, a2, one)
	r.wants("another one", r.watch(foreign), "1 sums 1 a1")
	r.wantAt("another one", api.StateBlocks, g)
	same(t, "history", len(r.c.History()), 0)
	same(t, "watched", r.c.Watched(), [][]byte{mineOne, foreign})
	r.wantBatches("another one", since, api.Batch{
		Puts:    []api.Pair{scriptPair(1, foreign), cursorPair(g)},
		Deletes: []string{keyOf(one.Point), didKeyOf(a2)},
	})
	r.settle()
	r.wantAt("two", api.StateSynced, a2, one, coin(a1.Txs[0], 0, 1), coin(a2.Txs[0], 0, 2), coin(payA2, 1, 2))
}

// Deletes of a Watch: coins by rising keys, then what blocks did.
func TestWatchDeletes(t *testing.T) {
	r := plainStart(t, a1, a2, a3)
	r.watch(foreign)
	r.meet(1)
	r.settle()
	var keys []string
	for _, c := range r.c.Coins() {
		keys = append(keys, keyOf(c.Point))
	}
	if len(keys) != 3 {
		t.Fatal(len(keys))
	}
	dids := []string{didKeyOf(a1), didKeyOf(a2), didKeyOf(a3)}
	slices.Sort(dids)
	since := r.count()
	r.watch(mineOne)
	r.wantBatches("all", since, api.Batch{Puts: []api.Pair{scriptPair(1, mineOne), cursorPair(g)}, Deletes: append(keys, dids...)})
}
