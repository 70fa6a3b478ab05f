package audit_test

import (
	"fmt"
	"math"
	"slices"
	"testing"

	"sporran/api"
	"sporran/audit"
	"sporran/block"
	"sporran/header"
	"sporran/tx"
)

// body is a block behind a header. (Work plays no part here.)
func body(prev api.Hash, txs ...api.Tx) api.Block {
	b := api.Block{Header: api.Header{Version: 1, Prev: prev, Bits: 0x207fffff}, Txs: txs}
	var ids []api.Hash
	for _, x := range txs {
		ids = append(ids, txID(x))
	}
	b.Header.Merkle, _ = block.Merkle(ids)
	return b
}

func id(b api.Block) api.Hash {
	return header.ID(b.Header)
}

func txID(x api.Tx) api.Hash {
	h, e := tx.ID(x)
	if e != api.OK {
		panic(e)
	}
	return h
}

// pay is a transaction that spends points, and pays 5 to a first script, 6 to the next one, and so on; unlike for each n.
func pay(n int, spent []api.Point, scripts ...byte) api.Tx {
	x := api.Tx{Lock: uint32(n)}
	for _, p := range spent {
		x.In = append(x.In, api.In{Prev: p, Script: []byte{7}})
	}
	if len(spent) == 0 {
		x.In = []api.In{{Prev: api.Point{Index: math.MaxUint32}}}
	}
	for i, s := range scripts {
		x.Out = append(x.Out, api.Out{Value: int64(5 + i), Script: []byte{s}})
	}
	return x
}

func points(l ...api.Point) []api.Point {
	return l
}

func at(x api.Tx, place uint32) api.Point {
	return api.Point{ID: txID(x), Index: place}
}

func coin(x api.Tx, place uint32, height int) api.Coin {
	return api.Coin{Point: at(x, place), Out: x.Out[place], Height: height}
}

func coins(l ...api.Coin) []api.Coin {
	return l
}

func scripts(l ...byte) [][]byte {
	var all [][]byte
	for _, s := range l {
		all = append(all, []byte{s})
	}
	return all
}

func headers(blocks ...api.Block) []api.Header {
	var l []api.Header
	for _, b := range blocks {
		l = append(l, b.Header)
	}
	return l
}

func bodies(l ...api.Block) []api.Block {
	return l
}

func TestSum(t *testing.T) {
	most := int64(math.MaxInt64)
	for _, x := range []struct {
		values []int64
		sum    int64
		ok     bool
	}{
		{nil, 0, true},
		{[]int64{0}, 0, true},
		{[]int64{7}, 7, true},
		{[]int64{1, 2, 3}, 6, true},
		{[]int64{most}, most, true},
		{[]int64{most, 0}, most, true},
		{[]int64{most - 1, 1}, most, true},
		{[]int64{1, most - 1}, most, true},
		{[]int64{most, 1}, 0, false},
		{[]int64{1, most}, 0, false},
		{[]int64{most, most}, 0, false},
		{[]int64{most, most, 2}, 0, false}, // modulo 2^64 that were 0
		{[]int64{-1}, 0, false},
		{[]int64{5, -1}, 0, false},
		{[]int64{-1, 5}, 0, false},
		{[]int64{most, 1, -1}, 0, false},
		{[]int64{-1, most, 1}, 0, false},
		{[]int64{math.MinInt64}, 0, false},
		{[]int64{math.MinInt64, math.MinInt64}, 0, false},
	} {
		var l []api.Coin
		for _, v := range x.values {
			l = append(l, api.Coin{Out: api.Out{Value: v}})
		}
		if sum, ok := audit.Sum(l); sum != x.sum || ok != x.ok {
			t.Errorf("%v: %d, %v", x.values, sum, ok)
		}
	}
}

func TestLeads(t *testing.T) {
	g := body(api.Hash{}, pay(0, nil, 1))
	a := body(id(g), pay(1, nil, 1))
	b := body(id(a), pay(2, nil, 1))
	side := body(id(g), pay(3, nil, 1))
	for _, x := range []struct {
		name  string
		first api.Hash
		way   []api.Header
		leads bool
	}{
		{"none", id(g), nil, true},
		{"none, of noughts", api.Hash{}, []api.Header{}, true},
		{"the first one", id(g), headers(g), true},
		{"three", id(g), headers(g, a, b), true},
		{"from another one on", id(a), headers(a, b), true},
		{"another one", id(a), headers(g), false},
		{"another one, and its parent", id(a), headers(g, a), false},
		{"behind the first one", id(g), headers(a, b), false},
		{"its Prev plays no part", api.Hash{}, headers(g), false},
		{"one is lacking", id(g), headers(g, b), false},
		{"one stands twice", id(g), headers(g, g), false},
		{"the last one stands twice", id(g), headers(g, a, a), false},
		{"another way", id(g), headers(g, side, b), false},
		{"two behind one", id(g), headers(g, a, side), false},
		{"turned round", id(b), headers(b, a, g), false},
		{"wrong at the second place alone", id(g), headers(g, b, body(id(b), pay(4, nil, 1))), false},
	} {
		if audit.Leads(x.first, x.way) != x.leads {
			t.Error(x.name, !x.leads)
		}
	}
}

// The blocks of TestOwn: one of no interest, one that pays, one that spends one of these outputs and pays anew, one that spends that within it.
var (
	first  = pay(1, nil, 1, 2, 1)
	second = pay(2, points(at(first, 0)), 3)
	third  = pay(3, nil, 4)
	fourth = pay(4, points(at(third, 0)), 5)
	g      = body(api.Hash{}, pay(0, nil, 9))
	a      = body(id(g), pay(11, nil, 9), first)
	b      = body(id(a), second)
	c      = body(id(b), third, fourth)
)

func TestOwn(t *testing.T) {
	way := headers(g, a, b, c)
	all := bodies(g, a, b, c)
	most := scripts(1, 2, 3, 4, 5)
	odd := func(change func(*api.Coin)) []api.Coin {
		x := coin(first, 1, 1)
		x.Out.Script = slices.Clone(x.Out.Script)
		change(&x)
		return coins(x)
	}
	for _, x := range []struct {
		name    string
		way     []api.Header
		bodies  []api.Block
		scripts [][]byte
		coins   []api.Coin
		own     bool
	}{
		{"no coins", way, all, most, nil, true},
		{"no coins, and nothing else", nil, nil, nil, []api.Coin{}, true},
		{"all that there are", way, all, most, coins(coin(first, 1, 1), coin(first, 2, 1), coin(second, 0, 2), coin(fourth, 0, 3)), true},
		{"in another order", way, all, most, coins(coin(fourth, 0, 3), coin(second, 0, 2), coin(first, 1, 1)), true},
		{"one twice", way, all, most, coins(coin(first, 1, 1), coin(first, 1, 1)), true},
		{"bodies in another order", way, bodies(c, b, a), most, coins(coin(first, 1, 1), coin(second, 0, 2)), true},
		{"bodies twice", way, bodies(a, b, a, b), most, coins(coin(first, 1, 1), coin(second, 0, 2)), true},
		{"of height 0", way, all, scripts(9), coins(coin(pay(0, nil, 9), 0, 0)), true},
		{"no scripts", way, all, nil, coins(coin(first, 1, 1)), false},
		{"another script is watched", way, all, scripts(1, 3, 4, 5), coins(coin(first, 1, 1)), false},
		{"of two one of a script that is not watched", way, all, scripts(3, 2), coins(coin(first, 1, 1), coin(first, 2, 1)), false},
		{"spent later", way, all, most, coins(coin(first, 0, 1)), false},
		{"among good ones one spent later", way, all, most, coins(coin(first, 1, 1), coin(first, 0, 1), coin(second, 0, 2)), false},
		{"spent later, by a body that is not there", way, bodies(g, a, c), most, coins(coin(first, 0, 1)), true},
		{"spent later, off the way", headers(g, a), all, most, coins(coin(first, 0, 1)), true},
		{"spent within", way, all, most, coins(coin(third, 0, 3)), false},
		{"no body", way, nil, most, coins(coin(first, 1, 1)), false},
		{"no body of it", way, bodies(g, b, c), most, coins(coin(first, 1, 1)), false},
		{"off the way", headers(g, b, c), all, most, coins(coin(first, 1, 1)), false},
		{"no way", nil, all, most, coins(coin(first, 1, 1)), false},
		{"a height too low", way, all, most, odd(func(x *api.Coin) { x.Height = 0 }), false},
		{"a height too high", way, all, most, odd(func(x *api.Coin) { x.Height = 2 }), false},
		{"a height below 0", way, all, most, odd(func(x *api.Coin) { x.Height = -1 }), false},
		{"a height that is far off", way, all, most, odd(func(x *api.Coin) { x.Height = math.MaxInt }), false},
		{"another value", way, all, most, odd(func(x *api.Coin) { x.Out.Value++ }), false},
		{"a value below 0", way, all, most, odd(func(x *api.Coin) { x.Out.Value = -x.Out.Value }), false},
		{"another script", way, all, most, odd(func(x *api.Coin) { x.Out.Script[0] = 1 }), false},
		{"another place", way, all, most, odd(func(x *api.Coin) { x.Point.Index = 2 }), false},
		{"a place that is none", way, all, most, odd(func(x *api.Coin) { x.Point.Index = 3 }), false},
		{"the greatest place", way, all, most, odd(func(x *api.Coin) { x.Point.Index = math.MaxUint32 }), false},
		{"another transaction", way, all, most, odd(func(x *api.Coin) { x.Point.ID = txID(second) }), false},
		{"no transaction", way, all, most, odd(func(x *api.Coin) { x.Point.ID[31]++ }), false},
	} {
		if audit.Own(x.way, x.bodies, x.scripts, x.coins) != x.own {
			t.Error(x.name, !x.own)
		}
	}
}

// Scripts of no bytes: nil and empty ones mean the same.
func TestOwnEmptyScript(t *testing.T) {
	x := pay(1, nil, 1)
	x.Out[0].Script = nil
	b := body(api.Hash{}, x)
	y := coin(x, 0, 0)
	y.Out.Script = []byte{}
	for _, s := range []struct {
		scripts [][]byte
		own     bool
	}{{[][]byte{nil}, true}, {[][]byte{{}}, true}, {nil, false}, {[][]byte{{0}}, false}} {
		if audit.Own(headers(b), bodies(b), s.scripts, coins(y)) != s.own {
			t.Error(s.scripts, !s.own)
		}
	}
}

// A body counts, if its transactions are its header's.
func TestOwnBodiesThatCount(t *testing.T) {
	way := headers(g, a, b)
	most := scripts(1, 2, 3)
	lacks, more, swapped, others := b, b, a, a
	lacks.Txs = nil
	more.Txs = append(slices.Clone(b.Txs), third)
	swapped.Txs = []api.Tx{a.Txs[1], a.Txs[0]}
	others.Txs = append(slices.Clone(a.Txs), a.Txs...) // has a.Txs's root only if these were one
	for _, x := range []struct {
		name   string
		bodies []api.Block
		coins  []api.Coin
		own    bool
	}{
		{"one that does not count spends", bodies(a, more), coins(coin(first, 0, 1)), true},
		{"one that has nothing", bodies(a, lacks), coins(coin(first, 0, 1)), true},
		{"one that does not count makes", bodies(a, more), coins(coin(second, 0, 2)), false},
		{"one whose transactions stand in another order", bodies(swapped), coins(coin(first, 1, 1)), false},
		{"one whose transactions stand twice", bodies(others), coins(coin(first, 1, 1)), false},
		{"beside one that counts", bodies(swapped, a), coins(coin(first, 1, 1)), true},
		{"ahead of one that counts", bodies(a, swapped), coins(coin(first, 1, 1)), true},
	} {
		if audit.Own(way, x.bodies, most, x.coins) != x.own {
			t.Error(x.name, !x.own)
		}
	}
	odd := body(api.Hash{}, first, second, second) // whose root is first, second's as well, but for its pairs
	odd.Header.Merkle, _ = block.Merkle([]api.Hash{txID(first), txID(second), txID(second), txID(second)})
	odd.Txs = append(odd.Txs, second)
	if audit.Own(headers(odd), bodies(odd), most, coins(coin(second, 0, 0))) {
		t.Error("a body that may be of others counts")
	}
	witness := a
	witness.Txs = slices.Clone(a.Txs)
	witness.Txs[1].In = []api.In{witness.Txs[1].In[0]}
	witness.Txs[1].In[0].Witness = [][]byte{{1}}
	if !audit.Own(way, bodies(witness), most, coins(coin(first, 1, 1))) {
		t.Error("witnesses play a part")
	}
}

// Where a body's header stands on the way several times, the first place is its height.
func TestOwnFirstPlace(t *testing.T) {
	way := headers(g, a, a, b, a, b)
	all := bodies(a, b)
	most := scripts(1, 2, 3)
	for h := range 6 {
		if audit.Own(way, all, most, coins(coin(first, 1, h))) != (h == 1) {
			t.Error("first", h)
		}
		if audit.Own(way, all, most, coins(coin(second, 0, h))) != (h == 3) {
			t.Error("second", h)
		}
	}
	if audit.Own(way, all, most, coins(coin(first, 0, 1))) {
		t.Error("spent at height 3")
	}
	if !audit.Own(headers(b, g, a, b), all, most, coins(coin(first, 0, 2))) {
		t.Error("spent at height 0, which is below")
	}
}

// What is spent ahead of where it is made, or where it is made for the last time, is no matter.
func TestOwnOrder(t *testing.T) {
	make1 := pay(1, nil, 1)
	spend := pay(2, points(at(make1, 0)), 2)
	spendToo := pay(3, points(at(make1, 0)), 2)
	mid := pay(4, nil, 3)
	most := scripts(1, 2)
	for _, x := range []struct {
		name   string
		txs    [][]api.Tx // of the bodies, by height
		height int
		own    bool
	}{
		{"made", [][]api.Tx{{make1}}, 0, true},
		{"spent at once", [][]api.Tx{{make1, spend}}, 0, false},
		{"spent two behind", [][]api.Tx{{make1, mid, spend}}, 0, false},
		{"spent ahead", [][]api.Tx{{spend, make1}}, 0, true},
		{"spent ahead and behind", [][]api.Tx{{spend, make1, spendToo}}, 0, false},
		{"spent twice ahead", [][]api.Tx{{spend, spendToo, make1}}, 0, true},
		{"made again behind", [][]api.Tx{{make1, spend, make1}}, 0, true},
		{"made again behind, and spent again", [][]api.Tx{{make1, spend, make1, mid, spendToo}}, 0, false},
		{"spent in the block below", [][]api.Tx{{spend}, {make1}}, 1, true},
		{"spent in the block above", [][]api.Tx{{make1}, {spend}}, 0, false},
		{"spent in the block above, at an earlier place", [][]api.Tx{{mid, make1}, {spend}}, 0, false},
		{"spent in the block below, at a later place", [][]api.Tx{{mid, mid, spend}, {make1}}, 1, true},
		{"spent two above", [][]api.Tx{{make1}, {mid}, {spend}}, 0, false},
		{"made below, spent, made above", [][]api.Tx{{make1}, {spend}, {make1}}, 2, true},
		{"made below, spent, made above: of the one below", [][]api.Tx{{make1}, {spend}, {make1}}, 0, false},
		{"made twice", [][]api.Tx{{make1}, {mid}, {make1}}, 0, true},
		{"made twice: of the one above", [][]api.Tx{{make1}, {mid}, {make1}}, 2, true},
	} {
		var l []api.Block
		var prev api.Hash
		for _, txs := range x.txs {
			l = append(l, body(prev, txs...))
			prev = id(l[len(l)-1])
		}
		if audit.Own(headers(l...), l, most, coins(coin(make1, 0, x.height))) != x.own {
			t.Error(x.name, !x.own)
		}
	}
}

// A coin that is spent by its ID alone, or its place alone, is not spent.
func TestOwnOtherPoints(t *testing.T) {
	make1 := pay(1, nil, 1, 1)
	make2 := pay(2, nil, 1, 1)
	spend := pay(3, points(at(make1, 1), at(make2, 0)), 2)
	a := body(api.Hash{}, make1, make2)
	b := body(id(a), spend)
	for _, x := range []struct {
		coin api.Coin
		own  bool
	}{{coin(make1, 0, 0), true}, {coin(make1, 1, 0), false}, {coin(make2, 0, 0), false}, {coin(make2, 1, 0), true}} {
		if audit.Own(headers(a, b), bodies(a, b), scripts(1), coins(x.coin)) != x.own {
			t.Error(x.coin.Point.Index, !x.own)
		}
	}
}

// What is handed in stays as it is.
func TestOwnChangesNothing(t *testing.T) {
	way, all, most, l := headers(g, a, b, c), bodies(c, b, a), scripts(3, 2, 1), coins(coin(second, 0, 2), coin(first, 1, 1))
	before := fmt.Sprint(way, all, most, l)
	if !audit.Own(way, all, most, l) || !audit.Leads(id(g), way) {
		t.Error("not own")
	}
	if fmt.Sprint(way, all, most, l) != before {
		t.Error("changed")
	}
}
