package client_test

import (
	"math"
	"testing"

	"sporran/api"
	"sporran/filter"
)

// alone is a rig with one peer that has told the headers of blocks, and was asked for the first one's sum.
func alone(t *testing.T, blocks ...api.Block) *rig {
	t.Helper()
	r := start(t, blocks...)
	r.meet(1)
	return r
}

func TestHeadersCome(t *testing.T) {
	far := mine(id(a1), math.MaxUint32, pay(50, nil))
	early := mine(id(a1), 1005, pay(51, nil))
	idle := a2
	for idle.Header.Nonce = 0; id(idle)[31] < 0x80; idle.Header.Nonce++ {
	}
	for _, x := range []struct {
		name string
		told []api.Block
		sent string
		best int
		puts []api.Pair
	}{
		{"none", nil, "1 filter 1 a1", 1, nil},
		{"the first one", []api.Block{g}, "1 filter 1 a1", 1, nil},
		{"known ones", []api.Block{a1, g, a1}, "1 filter 1 a1", 1, nil},
		{"new ones", []api.Block{a2, a3}, "1 headers a3 a2 a1 g", 3, []api.Pair{headerPair(2, a2), headerPair(3, a3)}},
		{"new and known ones", []api.Block{a1, b2, a2, b2}, "1 headers b2 a1 g", 2, []api.Pair{headerPair(2, b2), headerPair(3, a2)}},
		{"no parent", []api.Block{a3}, "1 goes", 1, nil},
		{"no parent behind new ones", []api.Block{a2, b3, b2}, "1 goes", 2, []api.Pair{headerPair(2, a2)}},
		{"no work", []api.Block{idle}, "1 goes", 1, nil},
		{"a time that is too early", []api.Block{early}, "1 goes", 1, nil},
		{"the greatest time", []api.Block{far}, "1 headers " + nameOf(id(far)) + " a1 g", 2, []api.Pair{headerPair(2, far)}},
	} {
		r := alone(t, a1)
		r.tick(10)
		r.wants("asked again", r.say(1, r.sumsOf(a1)), "1 headers a1 g")
		since := r.count()
		r.wants(x.name, r.say(1, headersTold(x.told...)), x.sent)
		same(t, x.name+": best", r.c.Status().Best, x.best)
		if x.puts == nil {
			r.wantBatches(x.name, since)
		} else {
			r.wantBatches(x.name, since, puts(x.puts...))
		}
	}
}

// 20000 headers are the most; whoever tells another one goes.
func TestTooManyHeaders(t *testing.T) {
	r := plainStart(t)
	r.connect(1)
	r.say(1, version, verack)
	up := g
	var last string
	for n := 1; n < api.MaxCount; {
		m := api.Message{Kind: api.MsgHeaders}
		for len(m.Headers) < api.MaxHeaders && n < api.MaxCount {
			up = api.Block{Header: api.Header{Prev: id(up), Time: up.Header.Time + 1, Bits: easy}}
			up = work(up)
			m.Headers = append(m.Headers, up.Header)
			n++
		}
		last = r.say(1, m)
	}
	same(t, "best", r.c.Status().Best, api.MaxCount-1)
	if len(last) < 100 {
		t.Error(last)
	}
	one := work(api.Block{Header: api.Header{Prev: id(up), Time: up.Header.Time + 1, Bits: easy}})
	r.wants("one too many", r.say(1, headersTold(one)), "1 goes")
	r.connect(2)
	r.say(2, version, verack)
	r.wants("all is known", r.say(2, headersTold(up)), "")
	r.wantAt("at the tip", api.StateSynced, up)
	r.open()
	r.wantAt("opened", api.StateHeaders, up)
}

func TestSumsCome(t *testing.T) {
	two := api.Message{Kind: api.MsgSums, Stop: id(a1), Hashes: []api.Hash{{1}, {2}}}
	none := api.Message{Kind: api.MsgSums, Stop: id(a1)}
	r := alone(t, a1)
	r.wants("two", r.say(1, two), "1 goes")
	r = alone(t, a1)
	r.wants("none", r.say(1, none), "1 goes")
	r = alone(t, a1)
	odd := r.sumsOf(a1)
	odd.Prev = api.Hash{9}
	r.wants("another Prev", r.say(1, odd), "1 filter 1 a1")
}

// Of another block than the next one nothing is taken, however wrong it is.
func TestOtherBlock(t *testing.T) {
	other := func(t *testing.T) *rig { // 1 owes what is of a2, as b2 is the next block
		r := start(t, a1, a2)
		r.meet(1)
		r.say(1, r.sumsOf(a1))
		r.serve(1)
		return r
	}
	turn := func(r *rig) { // 2 tells another way
		r.connect(2)
		r.say(2, version, verack)
		r.say(2, headersTold(a1, b2, b3))
		r.m = modelOf(r.t, a1, a2, b2, b3)
		r.say(2, headersTold())
	}
	wrong := other(t).sumsOf(a2)
	wrong.Hashes = append(wrong.Hashes, api.Hash{})
	for _, m := range []api.Message{wrong, other(t).sumsOf(a2)} {
		r := other(t)
		turn(r)
		r.wants("sums", r.say(1, m), "1 sums 2 b2")
	}
	for _, f := range [][]byte{nil, empty, other(t).filterOf(a2)} {
		r := other(t)
		r.wants("vote", r.say(1, r.sumsOf(a2)), "1 filter 2 a2")
		turn(r)
		r.wants("a filter", r.say(1, filterTold(a2, f)), "1 sums 2 b2")
	}
	bad := a2
	bad.Txs = bad.Txs[1:]
	for _, b := range []api.Block{bad, a2} {
		r := other(t)
		r.say(1, r.sumsOf(a2))
		r.wants("matches", r.serve(1), "1 block a2")
		turn(r)
		r.wants("a body", r.say(1, bodyTold(b)), "1 sums 2 b2")
	}
	r := other(t)
	r.say(1, r.sumsOf(a2))
	r.serve(1)
	turn(r)
	r.wants("not found", r.say(1, api.Message{Kind: api.MsgNotFound, Hashes: []api.Hash{id(a2)}}), "1 goes")
}

func TestFilterComes(t *testing.T) {
	garbage := []byte{7, 7, 7}
	foul, _ := filter.Build(id(a1), [][]byte{foreign})
	foul = append(foul, 1)
	for _, x := range []struct {
		name        string
		voted, told []byte
		sent        string
	}{
		{"another sum", nil, empty, "1 goes"},
		{"another sum, no filter", nil, garbage, "1 goes"},
		{"no filter", garbage, garbage, "1 goes"},
		{"a filter and a byte", foul, foul, "1 goes"},
		{"no bytes", []byte{}, nil, "1 goes"},
		{"the filter of nothing", empty, empty, ""},
	} {
		r := alone(t, a1)
		if x.voted == nil {
			x.voted = r.filterOf(a1)
		}
		r.wants("vote", r.say(1, lie(a1, x.voted)), "1 filter 1 a1")
		r.wants(x.name, r.say(1, filterTold(a1, x.told)), x.sent)
	}
}

// A filter of whoever has not voted since all was told anew is let go.
func TestFilterOfNoVoter(t *testing.T) {
	for _, f := range [][]byte{nil, empty, {1, 2}} {
		r := alone(t, a1)
		r.say(1, r.sumsOf(a1))
		r.wants("told anew", r.watch(script(40)), "")
		if f == nil {
			f = r.filterOf(a1)
		}
		r.wants("a filter", r.say(1, filterTold(a1, f)), "1 sums 1 a1")
		r.wants("asked for it again", r.say(1, r.sumsOf(a1)), "1 filter 1 a1")
	}
}

// parted is a rig of two peers that told unlike sums of a2: 1 a true one, 2 that of f; 1 was asked for the body.
func parted(t *testing.T, f []byte) *rig {
	t.Helper()
	r := start(t, a1, a2)
	r.meet(1, 2)
	r.say(1, r.sumsOf(a1))
	r.say(2, r.sumsOf(a1))
	r.serve(1)
	r.say(1, r.sumsOf(a2))
	r.wants("two sums", r.say(2, lie(a2, f)), "1 block a2")
	return r
}

// Where the body is there a filter tells whether its peer lied.
func TestFilterAndBody(t *testing.T) {
	more, _ := filter.Build(id(a2), [][]byte{mineOne, foreign, script(70)})
	less, _ := filter.Build(id(a2), [][]byte{mineOne})
	for _, x := range []struct {
		name        string
		voted, told []byte
		sent        string
	}{
		{"more than the block has", more, more, ""},
		{"less than the block has", less, less, "2 goes"},
		{"another sum", less, more, "2 goes"},
		{"no filter", []byte{9}, []byte{9}, "2 goes"},
		{"none", empty, empty, "2 goes"},
	} {
		r := parted(t, x.voted)
		r.wants("body", r.serve(1), "1 filter 2 a2; 2 filter 2 a2")
		r.wants(x.name, r.say(2, filterTold(a2, x.told)), x.sent)
		if x.sent == "" {
			r.wantAt("1 owes", api.StateBlocks, a1)
			r.wants("1", r.serve(1), "")
		}
		r.wantAt(x.name, api.StateSynced, a2, coin(payA2, 0, 2))
	}
}

func TestBodyComes(t *testing.T) {
	bare, more, twice := a2, a2, a2
	bare.Txs = nil
	more.Txs = append([]api.Tx{pay(60, nil)}, more.Txs...)
	twice.Txs = append(append([]api.Tx{}, a2.Txs...), a2.Txs...)
	for _, b := range []api.Block{bare, more, twice} {
		r := parted(t, empty)
		r.wants("a body that can't be", r.say(1, bodyTold(b)), "1 goes; 2 filter 2 a2")
		r.wantAt("a body that can't be", api.StateBlocks, a1)
	}
	r := parted(t, empty)
	r.wants("not found", r.say(1, api.Message{Kind: api.MsgNotFound, Hashes: []api.Hash{id(a2)}}), "1 goes; 2 filter 2 a2")
}

// Witnesses are not the header's: a body with others is the body, too.
func TestBodyWithWitness(t *testing.T) {
	r := parted(t, empty)
	b := a2
	b.Txs = append([]api.Tx{}, b.Txs...)
	b.Txs[0].In = append([]api.In{}, b.Txs[0].In...)
	b.Txs[0].In[0].Witness = [][]byte{{1}}
	r.wants("body", r.say(1, bodyTold(b)), "1 filter 2 a2; 2 filter 2 a2")
}

// A vote is gone with its peer: it takes no part any more, and one that comes again votes anew.
func TestVoteGone(t *testing.T) {
	r := start(t, a1)
	r.meet(1, 2, 3)
	r.say(2, lie(a1, empty))
	r.say(1, r.sumsOf(a1))
	r.wants("2 comes again", r.gone(2)+r.connect(2), "2 version 70015 2")
	r.say(2, version, verack)
	r.wants("2 says the same", r.say(2, headersTold())+r.say(2, r.sumsOf(a1)), "2 sums 1 a1")
	r.wants("one sum: 1 voted first", r.say(3, r.sumsOf(a1)), "1 filter 1 a1")
}
