package model_test

import (
	"bytes"
	"encoding/binary"
	"fmt"
	"math"
	"math/rand"
	"reflect"
	"slices"
	"testing"

	"sporran/api"
	"sporran/block"
	"sporran/filter"
	"sporran/header"
	"sporran/model"
	"sporran/target"
	"sporran/tx"
)

const easy = 0x207fffff // bits that every second header meets

func want(t *testing.T, name string, got, want api.Errno) {
	t.Helper()
	if got != want {
		t.Errorf("%s: %v, not %v", name, got, want)
	}
}

// mine is a block behind a header, with enough work.
func mine(prev api.Hash, time uint32, txs ...api.Tx) api.Block {
	b := api.Block{Header: api.Header{Version: 1, Prev: prev, Time: time, Bits: easy}, Txs: txs}
	var ids []api.Hash
	for _, x := range txs {
		ids = append(ids, txID(x))
	}
	b.Header.Merkle, _ = block.Merkle(ids)
	return work(b)
}

func work(b api.Block) api.Block {
	for !target.Meets(id(b), b.Header.Bits) {
		b.Header.Nonce++
	}
	return b
}

func id(b api.Block) api.Hash {
	return header.ID(b.Header)
}

func txID(x api.Tx) api.Hash {
	h, e := tx.ID(x)
	if e != api.OK {
		panic(e)
	}
	return h
}

// from is the points that a transaction spends.
func from(points ...api.Point) []api.In {
	var ins []api.In
	for _, p := range points {
		ins = append(ins, api.In{Prev: p, Script: []byte{7}})
	}
	return ins
}

// to is outputs with scripts, the first one of 1, the next one of 2.
func to(scripts ...[]byte) []api.Out {
	var outs []api.Out
	for i, x := range scripts {
		outs = append(outs, api.Out{Value: int64(i + 1), Script: x})
	}
	return outs
}

// coinbase is a transaction that spends nothing that is there; unlike for each n.
func coinbase(n int, scripts ...[]byte) api.Tx {
	return api.Tx{In: from(api.Point{Index: math.MaxUint32}), Out: to(scripts...), Lock: uint32(n)}
}

func at(x api.Tx, place uint32) api.Point {
	return api.Point{ID: txID(x), Index: place}
}

func script(n int) []byte {
	return binary.BigEndian.AppendUint32([]byte{0x51}, uint32(n))
}

func params(first api.Block) api.Params {
	return api.Params{Genesis: first, Limit: easy}
}

func modelOf(t *testing.T, first api.Block, blocks ...api.Block) *model.Model {
	t.Helper()
	m, e := model.New(params(first), blocks)
	want(t, "New", e, api.OK)
	return m
}

// chain is n blocks behind one, each of one transaction.
func chain(behind api.Block, n int) []api.Block {
	var l []api.Block
	for i := range n {
		behind = mine(id(behind), behind.Header.Time+1, coinbase(1000+i, script(i)))
		l = append(l, behind)
	}
	return l
}

// many is transactions of so many outputs in all, whose scripts are unlike each other.
func many(n, outs int) []api.Tx {
	var l []api.Tx
	for made := 0; made < outs; {
		var scripts [][]byte
		for len(scripts) < 2000 && made < outs {
			scripts = append(scripts, script(1<<20+made))
			made++
		}
		l = append(l, coinbase(n+len(l), scripts...))
	}
	return l
}

var first = mine(api.Hash{}, 1000, coinbase(0, script(0), script(1)))

func TestNewErrors(t *testing.T) {
	a := mine(id(first), 2000, coinbase(1, script(2)))
	b := mine(id(a), 3000, coinbase(2, script(3)))
	bad := a
	bad.Header.Merkle[0]++
	bad = work(bad)
	idle := a
	idle.Header.Nonce = 0
	for target.Meets(id(idle), easy) {
		idle.Header.Nonce++
	}
	badFirst := first
	badFirst.Txs = nil
	full := mine(id(first), 2000, many(1, api.MaxCount+1)...)
	fullFirst := mine(api.Hash{}, 1000, many(1, api.MaxCount+1)...)
	fullBadFirst := fullFirst
	fullBadFirst.Header.Merkle[0]++
	long := chain(first, 201)
	checked := params(first)
	checked.Checks = []api.Check{{Height: 1, ID: api.Hash{1}}}
	noBits := params(badFirst)
	noBits.Limit = 0
	for _, x := range []struct {
		name   string
		p      api.Params
		blocks []api.Block
		e      api.Errno
	}{
		{"no blocks", params(first), nil, api.OK},
		{"two", params(first), []api.Block{a, b}, api.OK},
		{"200", params(first), long[:200], api.OK},
		{"201", params(first), long, api.ErrFull},
		{"the tree's ahead of 201", noBits, long, api.ErrArg},
		{"201 ahead of the first one", params(badFirst), long, api.ErrFull},
		{"the tree's ahead of the first one", noBits, nil, api.ErrArg},
		{"the first one", params(badFirst), nil, api.ErrBlock},
		{"the first one ahead of others", params(badFirst), []api.Block{b}, api.ErrBlock},
		{"another root", params(first), []api.Block{bad}, api.ErrBlock},
		{"another root ahead of the tree's", params(first), []api.Block{{Header: b.Header}}, api.ErrBlock},
		{"no parent", params(first), []api.Block{b, a}, api.ErrParent},
		{"the first fault", params(first), []api.Block{a, b, b, bad}, api.ErrArg},
		{"the first fault, another one", params(first), []api.Block{a, bad, a}, api.ErrBlock},
		{"no work", params(first), []api.Block{idle}, api.ErrWork},
		{"the parent's time", params(first), []api.Block{mine(id(first), 1000, coinbase(1))}, api.ErrTime},
		{"a check", checked, []api.Block{a}, api.ErrCheck},
		{"the greatest time", params(first), []api.Block{mine(id(first), math.MaxUint32, coinbase(1))}, api.OK},
		{"there", params(first), []api.Block{a, a}, api.ErrArg},
		{"the first one again", params(first), []api.Block{first}, api.ErrArg},
		{"a full filter", params(first), []api.Block{mine(id(first), 2000, many(1, api.MaxCount)...)}, api.OK},
		{"a filter too full", params(first), []api.Block{full}, api.ErrFull},
		{"a filter too full, twice", params(first), []api.Block{full, full}, api.ErrFull},
		{"the first one's filter too full", params(fullFirst), nil, api.ErrFull},
		{"the first one's filter ahead of others", params(fullFirst), []api.Block{bad}, api.ErrFull},
		{"the first one ahead of its filter", params(fullBadFirst), nil, api.ErrBlock},
	} {
		m, e := model.New(x.p, x.blocks)
		want(t, x.name, e, x.e)
		if (m == nil) != (e != api.OK) {
			t.Errorf("%s: a model beside %v", x.name, e)
		}
	}
}

func TestLongBlock(t *testing.T) {
	wide := coinbase(1, slices.Repeat([][]byte{make([]byte, api.MaxScript)}, 30)...)
	a := mine(id(first), 2000, wide)
	if _, e := block.Encode(a); e != api.ErrLong {
		t.Fatal(e)
	}
	m := modelOf(t, first, a)
	if l := m.Answer(api.Message{Kind: api.MsgGetData, Hashes: []api.Hash{id(a)}}); len(l) != 1 || l[0].Kind != api.MsgBlock {
		t.Error(len(l))
	}
	firstLong := mine(api.Hash{}, 1000, wide)
	modelOf(t, firstLong)
}

func TestBest(t *testing.T) {
	a := chain(first, 2)
	b := mine(id(first), 1500, coinbase(1))
	c := chain(b, 2)
	if m := modelOf(t, first); m.Best() != id(first) {
		t.Error("the first one alone")
	}
	if m := modelOf(t, first, a[0], a[1], b, c[0]); m.Best() != id(a[1]) {
		t.Error("of two with as much work the first one")
	}
	if m := modelOf(t, first, a[0], a[1], b, c[0], c[1]); m.Best() != id(c[1]) {
		t.Error("the one with more work")
	}
}

func TestPathBlockFilter(t *testing.T) {
	a := chain(first, 3)
	b := mine(id(a[0]), 1500, coinbase(1, script(9)))
	m := modelOf(t, first, a[0], a[1], b, a[2])
	for _, x := range []struct {
		id   api.Hash
		path []api.Block
	}{
		{id(first), []api.Block{first}},
		{id(a[2]), []api.Block{first, a[0], a[1], a[2]}},
		{id(b), []api.Block{first, a[0], b}},
		{api.Hash{}, nil},
		{api.Hash{1}, nil},
	} {
		if got := m.Path(x.id); !reflect.DeepEqual(got, x.path) {
			t.Errorf("%d blocks, not %d", len(got), len(x.path))
		}
		got, ok := m.Block(x.id)
		f, has := m.Filter(x.id)
		if ok != (x.path != nil) || has != ok {
			t.Error(ok, has)
		}
		if ok && !reflect.DeepEqual(got, x.path[len(x.path)-1]) {
			t.Error("another block")
		}
		if !ok && (!reflect.DeepEqual(got, api.Block{}) || f != nil) {
			t.Error("a block, or a filter, that is not there")
		}
	}
}

// wantFilter asks whether a block's filter is that of items.
func wantFilter(t *testing.T, name string, m *model.Model, b api.Block, items ...[]byte) {
	t.Helper()
	f, ok := m.Filter(id(b))
	built, e := filter.Build(id(b), items)
	if !ok || e != api.OK || !bytes.Equal(f, built) {
		t.Errorf("%s: filter %x, not %x", name, f, built)
	}
}

func TestFilters(t *testing.T) {
	data := append([]byte{0x6a}, 1, 2)
	one := coinbase(1, script(10), nil, data)
	a := mine(id(first), 2000, one)
	wantFilter(t, "outputs", modelOf(t, first, a), a, script(10))
	wantFilter(t, "of the first one", modelOf(t, first, a), first, script(0), script(1))

	g0, g1 := at(first.Txs[0], 0), at(first.Txs[0], 1)
	two := api.Tx{In: from(g1, at(one, 0)), Out: to(script(20))}
	b := mine(id(a), 3000, two)
	wantFilter(t, "spent of both blocks ahead", modelOf(t, first, a, b), b, script(20), script(1), script(10))

	three := api.Tx{In: from(at(one, 1), at(one, 2), at(one, 3), at(one, math.MaxUint32), api.Point{ID: api.Hash{5}}), Out: to(script(30))}
	c := mine(id(a), 3000, three)
	wantFilter(t, "an empty script, one of data, places that are not there", modelOf(t, first, a, c), c, script(30), data)

	inner := coinbase(5, script(50))
	user := api.Tx{In: from(at(inner, 0), g0), Out: to(script(51))}
	d := mine(id(a), 3000, inner, user)
	wantFilter(t, "within a block", modelOf(t, first, a, d), d, script(50), script(51), script(0))
	last := api.Tx{In: from(at(user, 0))}
	e := mine(id(a), 3000, inner, last, user)
	wantFilter(t, "a transaction behind it", modelOf(t, first, a, e), e, script(50), script(51), script(0))
	other := mine(id(a), 3500, api.Tx{In: from(at(two, 0)), Out: to(script(60))})
	wantFilter(t, "of another way", modelOf(t, first, a, b, other), other, script(60))
	wantFilter(t, "of a child", modelOf(t, first, a, b), a, script(10))

	late := mine(id(b), 4000, one, api.Tx{In: from(at(one, 0)), Out: to(script(70))})
	wantFilter(t, "there twice, spent twice", modelOf(t, first, a, b, late), late, script(10), script(70))
	late = mine(id(c), 4000, one, coinbase(9), one, api.Tx{In: from(at(one, 0), g1, g1), Out: to(script(70))})
	wantFilter(t, "twice in a block", modelOf(t, first, a, c, late), late, script(10), script(70), script(1))
	both := mine(id(other), 4000, api.Tx{In: from(at(two, 0)), Out: to(script(80))})
	again := mine(id(both), 5000, two, api.Tx{In: from(at(two, 0)), Out: to(script(81))})
	wantFilter(t, "not yet there", modelOf(t, first, a, b, other, both, again), both, script(80))
	wantFilter(t, "on another way, then on this one", modelOf(t, first, a, b, other, both, again), again, script(20), script(81), script(1), script(10))
	tell := mine(id(again), 6000, api.Tx{In: from(at(two, 0)), Out: to(script(82))})
	wantFilter(t, "of the block ahead, that of another way first", modelOf(t, first, a, b, other, both, again, tell), tell, script(82), script(20))
}

func TestHeaders(t *testing.T) {
	long := chain(first, 120)
	side := mine(id(long[0]), 1500, coinbase(1))
	m := modelOf(t, first, append(slices.Clone(long), side)...)
	ids := func(l []api.Block) []api.Header {
		var headers []api.Header
		for _, b := range l {
			headers = append(headers, b.Header)
		}
		return headers
	}
	for _, x := range []struct {
		name  string
		known []api.Hash
		stop  api.Hash
		want  []api.Block
	}{
		{"nothing known", nil, api.Hash{}, long[:100]},
		{"unknown", []api.Hash{{1}, {}}, api.Hash{}, long[:100]},
		{"the first one", []api.Hash{id(first)}, api.Hash{}, long[:100]},
		{"101 left", []api.Hash{id(long[18])}, api.Hash{}, long[19:119]},
		{"100 left", []api.Hash{id(long[19])}, api.Hash{}, long[20:]},
		{"two left", []api.Hash{id(long[117])}, api.Hash{}, long[118:]},
		{"none left", []api.Hash{id(long[119])}, api.Hash{}, nil},
		{"none left, the same one as stop", []api.Hash{id(long[119])}, id(long[119]), nil},
		{"the first of several", []api.Hash{{1}, id(long[50]), id(long[110]), id(first)}, api.Hash{}, long[51:]},
		{"on another way", []api.Hash{id(side), id(long[110])}, api.Hash{}, long[111:]},
		{"on another way alone", []api.Hash{id(side)}, api.Hash{}, long[:100]},
		{"up to a stop", []api.Hash{id(long[50])}, id(long[53]), long[51:54]},
		{"the next one as stop", []api.Hash{id(long[50])}, id(long[51]), long[51:52]},
		{"a stop that is known", []api.Hash{id(long[50])}, id(long[50]), long[51:]},
		{"a stop ahead", []api.Hash{id(long[50])}, id(long[49]), long[51:]},
		{"a stop as the last of a message", nil, id(long[99]), long[:100]},
		{"a stop behind a message", nil, id(long[100]), long[:100]},
		{"a stop on another way", []api.Hash{id(first)}, id(side), long[:100]},
		{"a stop that is not there", []api.Hash{id(long[100])}, api.Hash{1}, long[101:]},
	} {
		l := m.Answer(api.Message{Kind: api.MsgGetHeaders, Number: 3, Hashes: x.known, Stop: x.stop, Nonce: 5})
		want := api.Message{Kind: api.MsgHeaders, Headers: ids(x.want)}
		if len(l) != 1 || !reflect.DeepEqual(l[0], want) {
			t.Errorf("%s: not %d headers from there on: %v", x.name, len(x.want), len(l))
		}
	}
}

func TestSumsAndFilters(t *testing.T) {
	a := chain(first, 3)
	side := mine(id(a[0]), 1500, coinbase(1, script(77)))
	m := modelOf(t, first, append(slices.Clone(a), side)...)
	way := []api.Block{first, a[0], a[1], a[2]}
	other := []api.Block{first, a[0], side}
	for _, x := range []struct {
		from uint32
		stop api.Hash
		way  []api.Block // to the stop; nil: no answer
	}{
		{0, id(first), way[:1]},
		{0, id(a[2]), way},
		{1, id(a[2]), way},
		{2, id(a[2]), way},
		{3, id(a[2]), way},
		{4, id(a[2]), nil},
		{math.MaxUint32, id(a[2]), nil},
		{1, id(a[1]), way[:3]},
		{0, id(side), other},
		{2, id(side), other},
		{0, api.Hash{1}, nil},
		{0, api.Hash{}, nil},
	} {
		var chained api.Hash
		var sums []api.Hash
		var prev api.Hash
		var filters []api.Message
		for h, b := range x.way {
			f, _ := m.Filter(id(b))
			if h == int(x.from) {
				prev = chained
			}
			if h >= int(x.from) {
				sums = append(sums, filter.Sum(f))
				filters = append(filters, api.Message{Kind: api.MsgFilter, Stop: id(b), Bytes: f})
			}
			chained = filter.Chain(filter.Sum(f), chained)
		}
		var told []api.Message
		if x.way != nil {
			told = []api.Message{{Kind: api.MsgSums, Stop: x.stop, Prev: prev, Hashes: sums}}
		}
		ask := api.Message{Kind: api.MsgGetSums, Number: x.from, Stop: x.stop, Prev: api.Hash{8}, Hashes: []api.Hash{{9}}}
		if l := m.Answer(ask); !reflect.DeepEqual(l, told) {
			t.Errorf("sums from %d on: %v, not %v", x.from, l, told)
		}
		ask.Kind = api.MsgGetFilter
		if l := m.Answer(ask); !reflect.DeepEqual(l, filters) {
			t.Errorf("filters from %d on: %v, not %v", x.from, l, filters)
		}
	}
}

// The noughts ahead of the first header's filter don't hang on its Prev.
func TestFirstPrev(t *testing.T) {
	odd := mine(api.Hash{4}, 1000, coinbase(0))
	m := modelOf(t, odd)
	f, _ := m.Filter(id(odd))
	l := m.Answer(api.Message{Kind: api.MsgGetSums, Stop: id(odd)})
	if len(l) != 1 || l[0].Prev != (api.Hash{}) || l[0].Hashes[0] != filter.Sum(f) {
		t.Error(l)
	}
}

func TestOtherAnswers(t *testing.T) {
	a := mine(id(first), 2000, coinbase(1, script(2)))
	m := modelOf(t, first, a)
	full := api.Message{Number: 7, Nonce: 9, Prev: api.Hash{1}, Stop: id(a), Hashes: []api.Hash{id(a), {3}, id(first), {3}, id(a)}, Headers: []api.Header{a.Header}, Bytes: []byte{1}, Block: a}
	for kind := -2; kind < 20; kind++ {
		full.Kind = kind
		var told []api.Message
		switch kind {
		case api.MsgVersion:
			told = []api.Message{{Kind: api.MsgVersion, Number: 70015}, {Kind: api.MsgVerack}}
		case api.MsgPing:
			told = []api.Message{{Kind: api.MsgPong, Nonce: 9}}
		case api.MsgGetData:
			told = []api.Message{
				{Kind: api.MsgBlock, Block: a},
				{Kind: api.MsgNotFound, Hashes: []api.Hash{{3}}},
				{Kind: api.MsgBlock, Block: first},
				{Kind: api.MsgNotFound, Hashes: []api.Hash{{3}}},
				{Kind: api.MsgBlock, Block: a},
			}
		case api.MsgGetHeaders:
			told = []api.Message{{Kind: api.MsgHeaders}}
		case api.MsgGetSums, api.MsgGetFilter:
			continue // at height 7 there is none; see TestSumsAndFilters
		}
		if l := m.Answer(full); !reflect.DeepEqual(l, told) {
			t.Errorf("kind %d: %v, not %v", kind, l, told)
		}
	}
	if l := m.Answer(api.Message{Kind: api.MsgGetData}); len(l) != 0 {
		t.Error("no hashes", l)
	}
}

func wantCoins(t *testing.T, name string, got []api.Coin, want ...api.Coin) {
	t.Helper()
	slices.SortFunc(want, func(a, b api.Coin) int {
		if c := bytes.Compare(a.Point.ID[:], b.Point.ID[:]); c != 0 {
			return c
		}
		return int(a.Point.Index) - int(b.Point.Index)
	})
	if fmt.Sprint(got) != fmt.Sprint(want) {
		t.Errorf("%s: coins %v, not %v", name, got, want)
	}
}

func coin(x api.Tx, place uint32, height int) api.Coin {
	return api.Coin{Point: at(x, place), Out: x.Out[place], Height: height}
}

func TestCoins(t *testing.T) {
	one := coinbase(1, script(0), script(2), script(0))
	a := mine(id(first), 2000, one)
	two := api.Tx{In: from(at(one, 0), at(first.Txs[0], 0)), Out: to(script(0), script(3))}
	b := mine(id(a), 3000, two)
	other := api.Tx{In: from(at(one, 2)), Out: to(script(0))}
	c := mine(id(a), 3000, other)
	m := modelOf(t, first, a, b, c)
	s := func(n ...int) [][]byte {
		var l [][]byte
		for _, x := range n {
			l = append(l, script(x))
		}
		return l
	}
	wantCoins(t, "the first block's outputs are none", m.Coins(id(first), s(0, 1)))
	wantCoins(t, "no scripts", m.Coins(id(b), nil))
	wantCoins(t, "not there", m.Coins(api.Hash{1}, s(0)))
	wantCoins(t, "one block", m.Coins(id(a), s(0, 5)), coin(one, 0, 1), coin(one, 2, 1))
	wantCoins(t, "spent", m.Coins(id(b), s(0)), coin(one, 2, 1), coin(two, 0, 2))
	wantCoins(t, "another way", m.Coins(id(c), s(0, 2)), coin(one, 0, 1), coin(one, 1, 1), coin(other, 0, 2))
	wantCoins(t, "scripts that can't be, and one twice", m.Coins(id(b), [][]byte{nil, {0x6a}, script(3), make([]byte, api.MaxScript+1), script(3), script(2)}), coin(two, 1, 2), coin(one, 1, 1))
	lots := [][]byte{nil}
	for i := range 49 {
		lots = append(lots, script(100+i))
	}
	wantCoins(t, "the fiftieth", m.Coins(id(b), append(slices.Clone(lots), script(3))), coin(two, 1, 2))
	lots = append(lots, script(200))
	wantCoins(t, "one above fifty", m.Coins(id(b), append(slices.Clone(lots), script(3))))
	wantCoins(t, "above fifty, but there", m.Coins(id(b), append(append(s(3), lots...), script(3))), coin(two, 1, 2))
}

// forest is blocks in which transactions spend what stands anywhere, in an order in which they can come.
func forest(r *rand.Rand) (api.Block, []api.Block) {
	g := mine(api.Hash{}, 1000, coinbase(0, script(0), script(1)))
	all := []api.Block{g}
	var points []api.Point
	note := func(x api.Tx) {
		for i := range x.Out {
			points = append(points, at(x, uint32(i)))
		}
	}
	note(g.Txs[0])
	for n := range 12 {
		up := all[max(len(all)-1-r.Intn(3), 0)]
		var txs []api.Tx
		for k := range 1 + r.Intn(3) {
			x := coinbase(100*(n+1)+k, script(r.Intn(6)), script(r.Intn(6)))
			for range r.Intn(3) {
				x.In = append(x.In, from(points[r.Intn(len(points))])...)
			}
			if r.Intn(8) == 0 { // one that stood already
				x = all[r.Intn(len(all))].Txs[0]
			}
			txs = append(txs, x)
		}
		b := mine(id(up), up.Header.Time+1+uint32(r.Intn(5)), txs...)
		if block.Check(b) != api.OK {
			continue
		}
		for _, x := range txs {
			note(x)
		}
		all = append(all, b)
	}
	return g, all[1:]
}

// spent is what the last block of a way spends, transaction by transaction.
func spent(way []api.Block) [][]byte {
	var ahead []api.Tx
	for _, b := range way[:len(way)-1] {
		ahead = append(ahead, b.Txs...)
	}
	var scripts [][]byte
	for _, x := range way[len(way)-1].Txs {
		for _, in := range x.In {
			for _, y := range ahead {
				if txID(y) == in.Prev.ID && int(in.Prev.Index) < len(y.Out) {
					scripts = append(scripts, y.Out[in.Prev.Index].Script)
				}
			}
		}
		ahead = append(ahead, x)
	}
	return scripts
}

// A block that makes, or spends, a coin of scripts matches them; and its filter is the plain one.
func TestForests(t *testing.T) {
	r := rand.New(rand.NewSource(1))
	for range 60 {
		g, blocks := forest(r)
		m := modelOf(t, g, blocks...)
		for _, b := range blocks {
			way := m.Path(id(b))
			wantFilter(t, "forest", m, b, filter.Items(b, spent(way))...)
			f, _ := m.Filter(id(b))
			for n := range 6 {
				ahead, now := m.Coins(b.Header.Prev, [][]byte{script(n)}), m.Coins(id(b), [][]byte{script(n)})
				hit, e := filter.Match(id(b), f, [][]byte{script(n)})
				if e != api.OK || !hit && !reflect.DeepEqual(ahead, now) {
					t.Fatal("a block that changes coins does not match")
				}
			}
		}
	}
}

func TestPlainObjects(t *testing.T) {
	for _, m := range []*model.Model{nil, {}} {
		if m.Best() != (api.Hash{}) || m.Path(api.Hash{}) != nil || m.Answer(api.Message{Kind: api.MsgPing}) != nil || m.Coins(api.Hash{}, nil) != nil {
			t.Error("a model that no call made has something")
		}
		if _, ok := m.Block(api.Hash{}); ok {
			t.Error("a block")
		}
		if _, ok := m.Filter(api.Hash{}); ok {
			t.Error("a filter")
		}
	}
}

// spoil turns all bytes of blocks, and their lists.
func spoil(blocks ...api.Block) {
	for _, b := range blocks {
		for _, x := range b.Txs[:cap(b.Txs)] {
			for i := range x.In {
				for _, w := range x.In[i].Witness {
					turn(w)
				}
				clear(x.In[i].Witness[:cap(x.In[i].Witness)])
				turn(x.In[i].Script)
			}
			clear(x.In[:cap(x.In)])
			for i := range x.Out {
				turn(x.Out[i].Script)
			}
			clear(x.Out[:cap(x.Out)])
		}
		clear(b.Txs[:cap(b.Txs)])
	}
}

func turn(b []byte) {
	b = b[:cap(b)]
	for i := range b {
		b[i] += 77
	}
}

// roomy is a model's parts with room behind their ends.
func roomy() (api.Block, []api.Block) {
	x := api.Tx{In: make([]api.In, 1, 3), Out: make([]api.Out, 1, 3)}
	x.In[0] = api.In{Prev: at(first.Txs[0], 0), Script: append(make([]byte, 0, 9), 1, 2, 3), Witness: append(make([][]byte, 0, 3), append(make([]byte, 0, 9), 3))}
	x.Out[0] = api.Out{Value: 4, Script: append(make([]byte, 0, 9), 0x51, 6)}
	g := mine(api.Hash{}, 1000, coinbase(0, script(0), script(1)))
	b := mine(id(g), 2000, append(make([]api.Tx, 0, 4), x)...)
	return g, append(make([]api.Block, 0, 3), b)
}

func told(m *model.Model) string {
	all := m.Answer(api.Message{Kind: api.MsgGetData, Hashes: []api.Hash{m.Best(), {1}}})
	all = append(all, m.Answer(api.Message{Kind: api.MsgGetHeaders})...)
	all = append(all, m.Answer(api.Message{Kind: api.MsgGetSums, Stop: m.Best()})...)
	all = append(all, m.Answer(api.Message{Kind: api.MsgGetFilter, Stop: m.Best()})...)
	b, _ := m.Block(m.Best())
	f, _ := m.Filter(m.Best())
	return fmt.Sprint(all, b, f, m.Path(m.Best()), m.Coins(m.Best(), [][]byte{{0x51, 6}}))
}

func TestMemory(t *testing.T) {
	g, blocks := roomy()
	p := params(g)
	p.Checks = []api.Check{{Height: 1, ID: id(blocks[0])}}
	m, e := model.New(p, blocks)
	want(t, "New", e, api.OK)
	g2, blocks2 := roomy()
	if !reflect.DeepEqual(g, g2) || !reflect.DeepEqual(blocks, blocks2) || cap(blocks[0].Txs) < 4 || blocks[0].Txs[:2][1].Lock != 0 {
		t.Error("New changed what it was handed")
	}
	before := told(m)
	spoil(g)
	spoil(blocks...)
	clear(blocks[:cap(blocks)])
	clear(p.Checks)
	if told(m) != before {
		t.Error("New kept what it was handed")
	}
	for range 2 {
		ask := api.Message{Hashes: []api.Hash{m.Best(), {1}, m.Best()}, Stop: m.Best()}
		var lists [][]api.Message
		for _, kind := range []int{api.MsgGetData, api.MsgGetHeaders, api.MsgGetSums, api.MsgGetFilter} {
			ask.Kind = kind
			lists = append(lists, m.Answer(ask))
		}
		if ask.Hashes[1] != (api.Hash{1}) {
			t.Error("Answer changed what it was handed")
		}
		spoil(lists[0][0].Block)
		if len(lists[0][2].Block.Txs) != 1 || lists[0][2].Block.Txs[0].Out[0].Script[0] != 0x51 {
			t.Error("two blocks of one answer share a list")
		}
		for _, l := range lists {
			for _, x := range l {
				spoil(x.Block)
				turn(x.Bytes)
				clear(x.Hashes[:cap(x.Hashes)])
				clear(x.Headers[:cap(x.Headers)])
			}
			clear(l)
		}
		clear(ask.Hashes)
		b, _ := m.Block(m.Best())
		spoil(b)
		f, _ := m.Filter(m.Best())
		turn(f)
		path := m.Path(m.Best())
		spoil(path...)
		clear(path[:cap(path)])
		coins := m.Coins(m.Best(), [][]byte{{0x51, 6}})
		turn(coins[0].Out.Script)
		clear(coins[:cap(coins)])
	}
	if told(m) != before {
		t.Error("an answer shares a list with the model")
	}
	scripts := [][]byte{append(make([]byte, 0, 5), 0x51, 6), {0x51, 7}}
	m.Coins(m.Best(), scripts)
	if !bytes.Equal(scripts[0], []byte{0x51, 6}) || !bytes.Equal(scripts[1], []byte{0x51, 7}) {
		t.Error("Coins changed what it was handed")
	}
}

func TestSilence(t *testing.T) {
	m := modelOf(t, first)
	for _, x := range []api.Message{{}, {Kind: -1}, {Kind: math.MaxInt}, {Kind: math.MinInt}, {Kind: api.MsgGetSums, Number: 1}, {Kind: api.MsgGetFilter, Stop: id(first), Number: 1}} {
		if l := m.Answer(x); len(l) != 0 {
			t.Error(x.Kind, l)
		}
	}
}
