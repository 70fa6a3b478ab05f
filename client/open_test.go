package client_test

import (
	"math"
	"slices"
	"testing"

	"sporran/api"
	"sporran/client"
	"sporran/header"
	"sporran/journal"
	"sporran/tape"
	"sporran/target"
)

// Example 1 of chapter 21: Open of a new tape: the cursor is the first block, StateHeaders.
func TestOpenNew(t *testing.T) {
	x, _ := tape.New(room)
	c, e := client.Open(chainOf(g), x)
	want(t, "Open", e, api.OK)
	same(t, "status", c.Status(), api.Status{State: api.StateHeaders, Cursor: id(g)})
	if len(c.Coins())+len(c.History())+len(c.Peers())+len(c.Fetched())+len(c.Watched()) > 0 || len(c.Tree().All()) != 1 {
		t.Error("a new one has something")
	}
	same(t, "tape", len(x.Bytes()), 0)
}

// written is a tape of batches.
func written(t testing.TB, l ...api.Batch) *tape.Tape {
	t.Helper()
	x, _ := tape.New(room)
	j, e := journal.Open(x)
	want(t, "journal", e, api.OK)
	for _, b := range l {
		want(t, "Commit", j.Commit(b), api.OK)
	}
	return x
}

func TestOpenErrors(t *testing.T) {
	badChain := chainOf(g)
	badChain.Limit = 0
	badLog := puts(pair("x", nil))
	torn := func(l ...api.Batch) *tape.Tape {
		x := written(t, l...)
		x.Append([]byte{1, 2, 3})
		return x
	}
	stopped := func(x *tape.Tape) *tape.Tape {
		x.Fuse(0)
		return x
	}
	for _, x := range []struct {
		name string
		p    api.Params
		tape *tape.Tape
		e    api.Errno
		cut  int // bytes that are no more
	}{
		{"no tape", chainOf(g), nil, api.ErrNil, 0},
		{"no tape, a bad chain", badChain, nil, api.ErrNil, 0},
		{"a plain tape", chainOf(g), &tape.Tape{}, api.ErrNil, 0},
		{"a plain tape, a bad chain", badChain, &tape.Tape{}, api.ErrNil, 0},
		{"the tree's", badChain, torn(), api.ErrArg, 0},
		{"the tree's ahead of the journal's", badChain, stopped(torn(badLog)), api.ErrArg, 0},
		{"the journal's ahead of the log's", chainOf(g), stopped(torn(badLog)), api.ErrDead, 0},
		{"nothing to cut", chainOf(g), stopped(written(t, badLog)), api.ErrLog, 0},
		{"what is cut off stays so", chainOf(g), torn(badLog), api.ErrLog, 3},
		{"torn", chainOf(g), torn(puts(scriptPair(0, mineOne))), api.OK, 3},
		{"stopped", chainOf(g), stopped(written(t, puts(scriptPair(0, mineOne)))), api.OK, 0},
	} {
		before := x.tape.Bytes()
		c, e := client.Open(x.p, x.tape)
		want(t, x.name, e, x.e)
		if (c == nil) != (e != api.OK) {
			t.Error(x.name, "a client beside an error")
		}
		same(t, x.name, x.tape.Bytes(), before[:len(before)-x.cut])
	}
}

// whole is a batch of all that a journal may have.
func whole() []api.Pair {
	one, two := coin(payA2, 0, 2), coin(payA3, 0, 3)
	return []api.Pair{
		headerPair(1, a1), headerPair(2, a2), headerPair(3, b2), headerPair(4, a3),
		scriptPair(0, mineOne), scriptPair(1, mineTwo),
		cursorPair(a3),
		coinPair(two),
		didPair(a2, []api.Coin{one}, nil, api.Entry{ID: txID(payA2), Height: 2, Got: 5}),
		didPair(a3, []api.Coin{two}, []api.Coin{one}, api.Entry{ID: txID(payA3), Height: 3, Got: 5, Paid: 5}),
	}
}

func TestOpenWhole(t *testing.T) {
	c, e := client.Open(chainOf(g), written(t, puts(whole()...)))
	want(t, "Open", e, api.OK)
	same(t, "status", c.Status(), api.Status{State: api.StateHeaders, Cursor: id(a3), Height: 3, Best: 3, Balance: 5})
	same(t, "coins", c.Coins(), []api.Coin{coin(payA3, 0, 3)})
	same(t, "history", c.History(), []api.Entry{{ID: txID(payA2), Height: 2, Got: 5}, {ID: txID(payA3), Height: 3, Got: 5, Paid: 5}})
	same(t, "watched", c.Watched(), [][]byte{mineOne, mineTwo})
	same(t, "headers", c.Tree().All(), []api.Header{g.Header, a1.Header, a2.Header, b2.Header, a3.Header})
	same(t, "peers", len(c.Peers())+len(c.Fetched()), 0)
}

// In several batches, of which later ones put and delete what earlier ones put.
func TestOpenBatches(t *testing.T) {
	var l []api.Batch
	for _, p := range whole() {
		l = append(l, puts(p))
	}
	l = append(l, api.Batch{Puts: []api.Pair{cursorPair(a2), coinPair(coin(payA2, 0, 2))}, Deletes: []string{keyOf(at(payA3, 0)), didKeyOf(a3)}})
	c, e := client.Open(chainOf(g), written(t, l...))
	want(t, "Open", e, api.OK)
	same(t, "status", c.Status(), api.Status{State: api.StateHeaders, Cursor: id(a2), Height: 2, Best: 3, Balance: 5})
	same(t, "coins", c.Coins(), []api.Coin{coin(payA2, 0, 2)})
	same(t, "history", c.History(), []api.Entry{{ID: txID(payA2), Height: 2, Got: 5}})
}

// Without a cursor it is the first block, whatever else is there.
func TestOpenWithoutCursor(t *testing.T) {
	all := slices.DeleteFunc(whole(), func(p api.Pair) bool { return p.Key == "c" })
	c, e := client.Open(chainOf(g), written(t, puts(all...)))
	want(t, "Open", e, api.OK)
	if c.Status().Cursor != id(g) || len(c.History()) != 0 || len(c.Coins()) != 1 {
		t.Error(c.Status())
	}
}

// with is a whole journal in which some pairs are others, or are added.
func with(l ...api.Pair) []api.Pair {
	all := whole()
	for _, p := range l {
		i := slices.IndexFunc(all, func(x api.Pair) bool { return x.Key == p.Key })
		if i >= 0 {
			all[i] = p
		} else {
			all = append(all, p)
		}
	}
	return all
}

func without(key string) []api.Pair {
	return slices.DeleteFunc(whole(), func(p api.Pair) bool { return p.Key == key })
}

func cut(b []byte, n int) []byte {
	return slices.Clone(b[:len(b)-n])
}

func patch(b []byte, place int, x byte) []byte {
	b = slices.Clone(b)
	b[place] = x
	return b
}

func TestOpenLog(t *testing.T) {
	one := coin(payA2, 0, 2)
	u := coinPair(one)
	high := coinPair(api.Coin{Point: one.Point, Out: api.Out{Value: math.MaxInt64}, Height: math.MaxInt64})
	d := didPair(a1, []api.Coin{one}, []api.Coin{one, one}, api.Entry{ID: api.Hash{4}, Height: 3, Got: 2, Paid: 1})
	bare := didPair(a1, nil, nil)
	id1 := id(a1)
	lots := with()
	for n := 2; n < api.MaxWatch; n++ {
		lots = append(lots, scriptPair(n, script(100+n)))
	}
	idle := a4
	for target.Meets(id(idle), easy) {
		idle.Header.Nonce++
	}
	for _, x := range []struct {
		name string
		all  []api.Pair
		ok   bool
	}{
		{"whole", with(), true},
		{"a key of another kind", with(pair("x", nil)), false},
		{"one that sorts ahead", with(pair("a", nil)), false},
		{"a nought", with(pair("\x00", nil)), false},
		{"a byte above all", with(pair("\xff\xff", nil)), false},
		{"a great letter", with(pair("C", id1[:])), false},

		{"a cursor that is not there", with(cursorPair(a4)), false},
		{"a cursor of noughts", with(pair("c", make([]byte, 32))), false},
		{"a cursor of another way", with(cursorPair(b2)), true},
		{"the first block's", with(cursorPair(g)), true},
		{"a cursor too short", with(pair("c", cut(id1[:], 1))), false},
		{"a cursor too long", with(pair("c", append(slices.Clone(id1[:]), 0))), false},
		{"an empty cursor", with(pair("c", nil)), false},
		{"a cursor's key too long", with(pair("c0", id1[:])), false},

		{"a header too short", with(pair("h00000004", cut(header.Encode(a3.Header), 1))), false},
		{"a header too long", with(pair("h00000004", append(header.Encode(a3.Header), 0))), false},
		{"an empty header", with(pair("h00000004", nil)), false},
		{"a header without parent", with(headerPair(5, b4)), false},
		{"a header ahead of its parent", with(headerPair(2, a3), headerPair(4, a2)), false},
		{"a header twice", with(headerPair(5, a2)), false},
		{"the first header", with(headerPair(5, g)), false},
		{"a header without work", with(headerPair(5, idle)), false},
		{"one more", with(headerPair(5, a4)), true},
		{"a number left out", with(headerPair(6, a4)), false},
		{"number 0", with(headerPair(0, a4)), false},
		{"without number 1", without("h00000001"), false},
		{"without the last one", append(without("h00000004"), cursorPair(a2)), true},
		{"seven digits", with(pair("h0000005", header.Encode(a4.Header))), false},
		{"nine digits", with(pair("h000000005", header.Encode(a4.Header))), false},
		{"no digits", with(pair("h", header.Encode(a4.Header))), false},
		{"no digit", with(pair("h0000000a", header.Encode(a4.Header))), false},

		{"50 scripts", lots, true},
		{"51 scripts", append(slices.Clone(lots), scriptPair(50, script(500))), false},
		{"a script twice", with(scriptPair(2, mineOne)), false},
		{"an empty script", with(scriptPair(2, nil)), false},
		{"a script of data", with(scriptPair(2, []byte{0x6a})), false},
		{"a long script", with(scriptPair(2, make([]byte, api.MaxScript))), true},
		{"a script too long", with(scriptPair(2, make([]byte, api.MaxScript+1))), false},
		{"a script's number left out", with(scriptPair(3, foreign)), false},
		{"without script 0", without("w000"), false},
		{"without script 1", without("w001"), true},
		{"two digits", with(pair("w02", foreign)), false},
		{"four digits", with(pair("w0002", foreign)), false},

		{"a coin more", with(u), true},
		{"a coin of the greatest numbers", with(high), true},
		{"a coin of a script that is not watched", with(pair(u.Key, longs(nil, 1, 1))), true},
		{"a coin without height", with(pair(u.Key, longs(nil, 1))), false},
		{"a coin with a short height", with(pair(u.Key, cut(longs(nil, 1, 1), 1))), false},
		{"an empty coin", with(pair(u.Key, nil)), false},
		{"a value too great", with(pair(u.Key, longs(nil, 1<<63, 1))), false},
		{"a height too great", with(pair(u.Key, longs(nil, 1, 1<<63))), false},
		{"a height of all bits", with(pair(u.Key, longs(nil, 1, math.MaxUint64))), false},
		{"a point too short", with(pair(u.Key[:36], append([]byte{0}, u.Value...))), false},
		{"a point too long", with(pair(u.Key+"\x00", u.Value)), false},
		{"no point", with(pair("u", slices.Concat([]byte(u.Key[1:]), u.Value))), false},

		{"one that did more", with(d), true},
		{"one that did nothing", with(bare), true},
		{"of a block that is not there", with(didPair(a4, nil, nil)), true},
		{"an ID too short", with(pair(d.Key[:32], d.Value)), false},
		{"an ID too long", with(pair(d.Key+"\x00", d.Value)), false},
		{"no ID", with(pair("d", d.Value)), false},
		{"too long", with(pair(d.Key, append(slices.Clone(d.Value), 0))), false},
		{"one that did nothing, too long", with(pair(d.Key, append(slices.Clone(bare.Value), 0))), false},
		{"one made too many", with(pair(d.Key, patch(d.Value, 3, 2))), false},
		{"one made too few", with(pair(d.Key, patch(d.Value, 3, 0))), false},
		{"one spent too many", with(pair(d.Key, patch(d.Value, 7, 3))), false},
		{"one entry too many", with(pair(d.Key, patch(d.Value, 11, 2))), false},
		{"one entry too few", with(pair(d.Key, patch(d.Value, 11, 0))), false},
		{"very many made", with(pair(d.Key, patch(d.Value, 0, 255))), false},
		{"very many spent", with(pair(d.Key, patch(d.Value, 4, 255))), false},
		{"very many entries", with(pair(d.Key, patch(d.Value, 8, 255))), false},
		{"a value too great, in what was made", with(pair(d.Key, patch(d.Value, 12+36, 0x80))), false},
		{"a height too great, in what was made", with(pair(d.Key, patch(d.Value, 12+44, 0x80))), false},
		{"a long script, in what was made", with(pair(d.Key, patch(d.Value, 12+52, 0x80))), false},
		{"a height too great, in an entry", with(pair(d.Key, patch(d.Value, len(d.Value)-24, 0x80))), false},
		{"got too much, in an entry", with(pair(d.Key, patch(d.Value, len(d.Value)-16, 0x80))), false},
		{"paid too much, in an entry", with(pair(d.Key, patch(d.Value, len(d.Value)-8, 0x80))), false},
		{"great numbers", with(pair(d.Key, patch(d.Value, len(d.Value)-8, 0x7f))), true},
	} {
		c, e := client.Open(chainOf(g), written(t, puts(x.all...)))
		if x.ok {
			want(t, x.name, e, api.OK)
		} else {
			want(t, x.name, e, api.ErrLog)
		}
		if (c == nil) == x.ok {
			t.Error(x.name, "a client beside an error")
		}
	}
	for n := range d.Value {
		if _, e := client.Open(chainOf(g), written(t, puts(with(pair(d.Key, d.Value[:n]))...))); e != api.ErrLog {
			t.Errorf("%d bytes of what a block did: %v", n, e)
		}
	}
}

// Headers may lie ahead of any clock, as they may when they come.
func TestOpenGreatestTime(t *testing.T) {
	far := mine(id(a3), math.MaxUint32, pay(50, nil))
	c, e := client.Open(chainOf(g), written(t, puts(with(headerPair(5, far))...)))
	want(t, "Open", e, api.OK)
	same(t, "best", c.Status().Best, 4)
}

// Of a journal whose coins don't belong to what blocks did, the coins stay, where a block is taken back.
func TestBackOfOddJournal(t *testing.T) {
	odd := didPair(a3, []api.Coin{coin(payB3, 0, 3)}, []api.Coin{coin(payA2, 0, 2)}, api.Entry{})
	r := start(t, a1, a2, b2, b3, b4)
	r.tape = written(t, puts(with(odd)...))
	r.open()
	two := coin(payA3, 0, 3)
	r.wantAt("opened", api.StateHeaders, a3, two)
	since := r.count()
	r.connect(1)
	r.say(1, version, verack)
	r.say(1, headersTold(b3, b4))
	r.say(1, none)
	r.wantAt("back", api.StateBlocks, a1, two)
	r.wantBatches("back", since, puts(headerPair(5, b3), headerPair(6, b4)),
		api.Batch{Puts: []api.Pair{cursorPair(a2), coinPair(two)}, Deletes: []string{didKeyOf(a3)}},
		api.Batch{Puts: []api.Pair{cursorPair(a1), coinPair(two)}, Deletes: []string{didKeyOf(a2)}},
	)
}

// Many headers, many digits.
func TestOpenManyHeaders(t *testing.T) {
	var l []api.Batch
	up := g
	for n := range 120 {
		up = mine(id(up), up.Header.Time+1, pay(n, nil))
		l = append(l, puts(headerPair(n+1, up)))
	}
	c, e := client.Open(chainOf(g), written(t, l...))
	want(t, "Open", e, api.OK)
	same(t, "best", c.Status().Best, 120)
}
