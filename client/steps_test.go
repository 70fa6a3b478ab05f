package client_test

import (
	"testing"

	"sporran/api"
	"sporran/filter"
)

// Step 1: each peer that is ready, asks nothing and whose headers are not done, in the order in which they came.
func TestAskHeaders(t *testing.T) {
	r := start(t, a1)
	r.connect(5)
	r.connect(2)
	r.connect(9)
	r.wants("2", r.say(2, version, verack), "2 verack; 2 headers g")
	r.wants("5 is asked alone", r.say(5, version, verack), "5 verack; 5 headers g")
	r.wants("new ones", r.say(2, headersTold(a1)), "2 headers a1 g")
	r.wants("5 says what is known", r.say(5, headersTold(a1)), "")
	r.wants("the tenth tick: 2 is asked still", r.tick(10), "5 headers a1 g")
	r.wants("2 has no more", r.say(2, headersTold()), "")
	r.wants("5 has no more", r.say(5, headersTold()), "5 sums 1 a1; 2 sums 1 a1")
}

// Step 2: blocks wait for a ready peer's headers, and for a ready peer.
func TestBlocksWait(t *testing.T) {
	r := start(t, a1, a2)
	r.meet(1)
	r.wants("1 votes", r.say(1, r.sumsOf(a1)), "1 filter 1 a1")
	r.connect(2)
	r.wants("2 is ready", r.say(2, version, verack), "2 verack; 2 headers a2 a1 g")
	r.wants("the filter", r.serve(1), "")
	r.wantAt("waits", api.StateHeaders, g)
	r.wants("2 is gone", r.gone(2), "1 sums 2 a2")
	r.wants("1 is gone", r.gone(1), "")
	r.wantAt("nobody", api.StateHeaders, a1)
	r.connect(3)
	r.wants("ticks without anybody who is ready", r.tick(19), "")
}

// One that is not ready is not waited for.
func TestNotReady(t *testing.T) {
	r := start(t, a1)
	r.meet(1)
	r.connect(2)
	r.say(2, version)
	r.wants("one vote is all", r.serve(1), "1 filter 1 a1")
	r.wants("the tip", r.serve(1), "")
	r.wantAt("the tip", api.StateSynced, a1)
}

// Step 5: with another next block, what peers told of the former one plays no part, though it comes again.
func TestNextTurns(t *testing.T) {
	r := start(t, a1, a2)
	r.meet(1, 2)
	r.say(1, r.sumsOf(a1))
	r.say(2, r.sumsOf(a1))
	r.serve(1)
	r.wants("one vote of a2", r.say(1, r.sumsOf(a2)), "")
	r.connect(3)
	r.say(3, version, verack)
	r.wants("3 tells another way", r.say(3, headersTold(a1, b2, b3)), "3 headers b3 b2 a1 g")
	r.wants("b2 is next", r.say(3, headersTold()), "1 sums 2 b2; 3 sums 2 b2")
	r.m = modelOf(t, a1, a2, a3, a4, b2, b3)
	r.wants("3 votes", r.say(3, r.sumsOf(b2)), "")
	r.wants("1 votes: 2 owes a sum of a2 still", r.say(1, r.sumsOf(b2)), "")
	r.connect(4)
	r.say(4, version, verack)
	r.say(4, headersTold(a3, a4))
	r.wants("a2 is next again", r.say(4, headersTold()), "1 sums 2 a2; 3 sums 2 a2; 4 sums 2 a2")
	r.wants("1 votes of a2 again", r.say(1, r.sumsOf(a2)), "")
	r.wants("2 answers what it was asked at first", r.say(2, r.sumsOf(a2)), "")
	r.wants("3 votes", r.say(3, r.sumsOf(a2)), "")
	r.wants("all say one sum", r.say(4, r.sumsOf(a2)), "1 filter 2 a2")
}

// The next block stays what it was while headers come that go on behind it.
func TestNextStays(t *testing.T) {
	r := start(t, a1, a2)
	r.meet(1)
	r.connect(2)
	r.wants("2 is ready", r.say(2, version, verack), "2 verack; 2 headers a2 a1 g")
	r.wants("1 votes, while blocks wait", r.say(1, r.sumsOf(a1)), "")
	r.wants("2 has more", r.say(2, headersTold(a3)), "2 headers a3 a2 a1 g")
	r.wants("1's vote is there", r.say(2, headersTold()), "2 sums 1 a1")
	r.wants("1 was the first", r.say(2, r.sumsOf(a1)), "1 filter 1 a1")
}

// Behind a Watch what peers told plays no part, though the next block is the same one.
func TestWatchTurns(t *testing.T) {
	r := start(t, a1)
	r.meet(1, 2)
	r.say(2, r.sumsOf(a1))
	r.wants("2 votes anew", r.watch(foreign), "2 sums 1 a1")
	r.wants("1 says what it was asked at first", r.say(1, r.sumsOf(a1)), "")
	r.wants("2", r.say(2, r.sumsOf(a1)), "1 filter 1 a1")
	r.wants("it matches", r.serve(1), "1 block a1")
	r.wants("both are asked again; 1 owes the block", r.watch(script(40)), "2 sums 1 a1")
	r.wants("2 votes", r.say(2, r.sumsOf(a1)), "")
	r.wants("the block is the body", r.serve(1), "1 sums 1 a1")
	r.wants("no filter is asked for", r.say(1, r.sumsOf(a1)), "")
	r.wantAt("applied", api.StateSynced, a1, coin(a1.Txs[0], 0, 1))
	same(t, "fetched", r.c.Fetched(), []api.Hash{id(a1)})
}

// The filter, the body and who was asked for a filter are none behind a Watch.
func TestWatchForgets(t *testing.T) {
	r := start(t, a1)
	r.meet(1, 2)
	r.say(1, r.sumsOf(a1))
	r.say(2, lie(a1, empty))
	r.wants("the body", r.serve(1), "1 filter 1 a1; 2 filter 1 a1")
	r.wants("1 answers", r.serve(1), "")
	r.wants("all anew", r.watch(foreign), "1 sums 1 a1")
	r.wants("1 votes", r.say(1, r.sumsOf(a1)), "")
	r.wants("2's filter is let go", r.say(2, filterTold(a1, empty)), "2 sums 1 a1")
	r.wants("the body is none", r.say(2, lie(a1, empty)), "1 block a1")
	r.wants("both are asked", r.serve(1), "1 filter 1 a1; 2 filter 1 a1")
	r.serve(1)
	r.wants("2 lies", r.say(2, filterTold(a1, empty)), "2 goes")
	r.wantAt("applied", api.StateSynced, a1, coin(a1.Txs[0], 0, 1))
}

// A filter that came is none behind a Watch.
func TestWatchForgetsFilter(t *testing.T) {
	r := start(t, a1)
	r.meet(1)
	f, _ := filter.Build(id(a1), [][]byte{foreign, mineOne})
	r.say(1, lie(a1, f))
	r.wants("matches", r.say(1, filterTold(a1, f)), "1 block a1")
	r.wants("anew", r.watch(foreign), "")
	r.gone(1)
	r.meet(2)
	r.wants("asked for", r.say(2, r.sumsOf(a1)), "2 filter 1 a1")
}

// Step 6: each ready peer that asks nothing and has not voted, in their order; it waits for all of them.
func TestAskSums(t *testing.T) {
	r := start(t, a1)
	r.connect(7)
	r.connect(3)
	r.meet(5)
	r.say(7, version, verack)
	r.say(3, version, verack)
	r.say(7, headersTold())
	r.wants("all; 5 was asked when it was alone", r.say(3, headersTold()), "7 sums 1 a1; 3 sums 1 a1")
	r.wants("5", r.say(5, r.sumsOf(a1)), "")
	r.wants("3", r.say(3, r.sumsOf(a1)), "")
	r.wants("7: 5 voted first", r.say(7, r.sumsOf(a1)), "5 filter 1 a1")
	r.wants("one more comes", r.connect(1)+r.say(1, version, verack), "1 version 70015 11 verack; 1 headers a1 g")
	r.wants("it is asked", r.say(1, headersTold()), "1 sums 1 a1")
	r.wants("the filter, which has to wait", r.serve(5), "")
	r.wantAt("waits for 1", api.StateBlocks, g)
	r.wants("1 votes", r.say(1, r.sumsOf(a1)), "")
	r.wantAt("passed", api.StateSynced, a1)
}

// Step 7: the first one in the order of the votes is asked; if it goes, the next one that asks nothing.
func TestAskFilter(t *testing.T) {
	r := start(t, a1)
	r.meet(1, 2, 3, 4)
	r.say(3, r.sumsOf(a1))
	r.say(1, r.sumsOf(a1))
	r.say(4, r.sumsOf(a1))
	r.wants("3 was first", r.say(2, r.sumsOf(a1)), "3 filter 1 a1")
	r.wants("3 is waited for", r.tick(1), "")
	r.wants("3 goes", r.say(3, filterTold(a1, empty)), "3 goes; 1 filter 1 a1")
	r.wants("1 is gone", r.gone(1), "4 filter 1 a1")
	r.wants("4 is late", r.tick(9)+r.say(2, headersTold())+r.tick(10)+r.say(2, headersTold())+r.tick(1), "2 headers a1 g2 headers a1 g4 goes; 2 filter 1 a1")
	r.wants("2", r.serve(2), "")
	r.wantAt("passed", api.StateSynced, a1)
	same(t, "fetched", len(r.c.Fetched()), 0)
}

// Sums parted, and do not part any more: the filter is asked of one that does not owe the body, which is not waited for.
func TestOneSumAgain(t *testing.T) {
	r := start(t, a1, a2)
	r.meet(1, 2, 3)
	r.say(1, r.sumsOf(a1))
	r.say(2, r.sumsOf(a1))
	r.wants("two sums", r.say(3, lie(a1, empty)), "1 block a1")
	r.wants("one sum again", r.gone(3), "2 filter 1 a1")
	r.wants("nothing matches", r.serve(2), "2 sums 2 a2")
	r.wantAt("passed", api.StateBlocks, a1)
	bad := a1
	bad.Txs = nil
	r.wants("the body is let go, whatever it is", r.say(1, bodyTold(bad)), "1 sums 2 a2")
	same(t, "fetched", r.c.Fetched(), []api.Hash{id(a1)})
}

// Nobody can be asked for the filter: it waits for the body, which counts then.
func TestOneSumAgainAlone(t *testing.T) {
	r := start(t, a1, a2)
	r.meet(1, 3)
	r.say(1, r.sumsOf(a1))
	r.wants("two sums", r.say(3, lie(a1, empty)), "1 block a1")
	r.wants("one sum again; 1 owes the body", r.gone(3), "")
	since := r.count()
	r.wants("the body", r.serve(1), "1 sums 2 a2")
	r.wantBatches("applied", since, puts(cursorPair(a1)))
}

// One sum again, and the filter matches: the body that is owed is not asked for once more.
func TestOneSumAgainMatches(t *testing.T) {
	r := start(t, a1, a2)
	r.meet(1, 2, 3)
	for n := 1; n <= 3; n++ {
		r.say(n, r.sumsOf(a1))
	}
	r.serve(1)
	r.say(1, r.sumsOf(a2))
	r.say(2, r.sumsOf(a2))
	r.wants("two sums", r.say(3, lie(a2, empty)), "1 block a2")
	r.wants("one sum again", r.gone(3), "2 filter 2 a2")
	r.wants("it matches", r.serve(2), "")
	r.wants("the body", r.serve(1), "")
	r.wantAt("applied", api.StateSynced, a2, coin(payA2, 0, 2))
	same(t, "fetched", r.c.Fetched(), []api.Hash{id(a2)})
}

// Step 8: the body is asked of the first one in the order of the peers; if it goes, of the next one.
func TestAskBody(t *testing.T) {
	r := start(t, a1, a2)
	r.meet(4, 1, 2)
	for _, n := range []int{2, 1, 4} {
		r.say(n, r.sumsOf(a1))
	}
	r.wants("passed", r.serve(2), "4 sums 2 a2; 1 sums 2 a2; 2 sums 2 a2")
	for _, n := range []int{2, 1} {
		r.say(n, r.sumsOf(a2))
	}
	r.wants("2 voted first", r.say(4, r.sumsOf(a2)), "2 filter 2 a2")
	r.wants("4 is the first", r.serve(2), "4 block a2")
	r.wants("4 is waited for", r.tick(1), "")
	r.wants("4 is gone", r.gone(4), "1 block a2")
	r.wants("1 has it not", r.say(1, api.Message{Kind: api.MsgNotFound, Hashes: []api.Hash{id(a2)}}), "1 goes; 2 block a2")
	r.wants("nobody is left", r.gone(2), "")
	same(t, "fetched", r.c.Fetched(), []api.Hash{id(a2), id(a2), id(a2)})
	r.connect(6)
	r.say(6, version, verack)
	r.wants("6 comes: its vote", r.say(6, headersTold()), "6 sums 2 a2")
	r.wants("the filter is there already", r.say(6, r.sumsOf(a2)), "6 block a2")
	r.wants("the body", r.serve(6), "")
	r.wantAt("applied", api.StateSynced, a2, coin(payA2, 0, 2))
}

// Step 8: one that is busy is not asked, if another one is not.
func TestAskBodyOfFree(t *testing.T) {
	r := start(t, a1)
	r.meet(1, 2)
	r.say(1, r.sumsOf(a1))
	r.wants("one sum", r.say(2, r.sumsOf(a1)), "1 filter 1 a1")
	r.connect(3)
	r.say(3, version, verack)
	r.wants("3 votes", r.say(3, headersTold()), "3 sums 1 a1")
	r.wants("two sums: 1 owes the filter", r.say(3, lie(a1, empty)), "2 block a1")
	r.wants("1's filter counts, as the body is not there yet", r.serve(1), "")
	r.wants("the body", r.serve(2), "1 filter 1 a1; 2 filter 1 a1; 3 filter 1 a1")
}

// Step 9: a filter that is owed since step 7 is waited for; who answers it then is asked by step 9 as well.
func TestOwedSinceSeven(t *testing.T) {
	r := start(t, a1)
	r.meet(1, 2)
	r.say(1, r.sumsOf(a1))
	r.say(2, r.sumsOf(a1))
	r.connect(3)
	r.say(3, version, verack)
	r.say(3, headersTold())
	r.say(3, lie(a1, empty))
	r.wants("the body, ahead of 1's filter", r.serve(2), "2 filter 1 a1; 3 filter 1 a1")
	r.wants("2", r.serve(2), "")
	r.wants("3 lied", r.say(3, filterTold(a1, empty)), "3 goes")
	r.wantAt("one sum: 1 is not waited for", api.StateSynced, a1)
	r.wants("1's filter is let go", r.say(1, filterTold(a1, []byte{1, 2, 3})), "")
	same(t, "peers", r.c.Peers(), []int{1, 2})
}

func TestOwedSinceSevenAsked(t *testing.T) {
	more, _ := filter.Build(id(a1), [][]byte{foreign, script(70)})
	r := start(t, a1)
	r.meet(1, 2)
	r.say(1, r.sumsOf(a1))
	r.say(2, r.sumsOf(a1))
	r.connect(3)
	r.say(3, version, verack)
	r.say(3, headersTold())
	r.say(3, lie(a1, more))
	r.serve(2)
	r.serve(2)
	r.wants("3 can't be told to lie", r.say(3, filterTold(a1, more)), "")
	r.wantAt("1 is waited for", api.StateBlocks, g)
	r.wants("1 is asked once more", r.serve(1), "1 filter 1 a1")
	r.wantAt("1 is waited for", api.StateBlocks, g)
	r.wants("1 again", r.serve(1), "")
	r.wantAt("applied", api.StateSynced, a1)
}

// Step 9 asks each peer once; one that comes later is asked, too; one that comes again is another one.
func TestAskFilters(t *testing.T) {
	more, _ := filter.Build(id(a1), [][]byte{foreign, script(70)})
	r := start(t, a1)
	r.meet(1, 2)
	r.say(1, r.sumsOf(a1))
	r.say(2, lie(a1, more))
	r.wants("the body", r.serve(1), "1 filter 1 a1; 2 filter 1 a1")
	r.wants("1 tells it", r.serve(1), "")
	r.gone(1)
	r.wantAt("one sum: applied", api.StateSynced, a1)

	r = start(t, a1)
	r.meet(1, 2, 3)
	r.say(1, r.sumsOf(a1))
	r.say(2, lie(a1, more))
	r.say(3, r.sumsOf(a1))
	r.serve(1)
	r.wants("1 tells it", r.serve(1), "")
	r.gone(1)
	r.wants("1 comes again", r.connect(1)+r.say(1, version, verack), "1 version 70015 11 verack; 1 headers a1 g")
	r.wants("1 votes", r.say(1, headersTold()), "1 sums 1 a1")
	r.wants("1 is asked again", r.say(1, r.sumsOf(a1)), "1 filter 1 a1")
	r.wants("2", r.say(2, filterTold(a1, more)), "")
	r.wants("3", r.serve(3), "")
	r.wantAt("1 is waited for", api.StateBlocks, g)
	r.wants("1", r.serve(1), "")
	r.wantAt("applied", api.StateSynced, a1)
}

// A block of two that is fetched as sums part is applied, though no filter matches.
func TestLiarsAlone(t *testing.T) {
	r := start(t, a1, a2)
	r.meet(1, 2)
	r.say(1, r.sumsOf(a1))
	r.say(2, r.sumsOf(a1))
	r.serve(1)
	r.say(1, lie(a2, empty))
	r.wants("two lies", r.say(2, lie(a2, []byte{5})), "1 block a2")
	r.wants("body", r.serve(1), "1 filter 2 a2; 2 filter 2 a2")
	r.wants("1 goes: one sum", r.say(1, filterTold(a2, empty)), "1 goes")
	r.wantAt("applied", api.StateSynced, a2, coin(payA2, 0, 2))
	same(t, "2 was not waited for", r.c.Peers(), []int{2})
}

// Synced: no next block; what is told of the last one is let go.
func TestNoNextBlock(t *testing.T) {
	r := start(t, a1)
	r.meet(1, 2)
	r.say(1, r.sumsOf(a1))
	r.say(2, r.sumsOf(a1))
	r.connect(3)
	r.say(3, version, verack)
	r.say(3, headersTold())
	r.say(3, lie(a1, empty))
	r.wants("3 goes: one sum again", r.gone(3), "")
	r.wants("nothing matches", r.serve(1), "")
	r.wantAt("synced", api.StateSynced, a1)
	bad := a1
	bad.Txs = nil
	r.wants("2's body is let go", r.say(2, bodyTold(bad)), "")
	same(t, "peers", r.c.Peers(), []int{1, 2})
}
