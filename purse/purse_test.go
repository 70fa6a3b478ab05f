package purse_test

import (
	"bytes"
	"fmt"
	"math"
	"math/rand"
	"runtime"
	"slices"
	"testing"
	"time"

	"sporran/api"
	"sporran/block"
	"sporran/purse"
	"sporran/tx"
)

// Scripts of the tests; most of them watch a, b and c.
var (
	a     = []byte{0x51}
	b     = []byte{0x52, 0x6a}
	c     = []byte{0x51, 0x51}
	alien = []byte{0x51, 0x52} // nobody watches it
)

func want(t *testing.T, name string, got, want api.Errno) {
	t.Helper()
	if got != want {
		t.Errorf("%s: %v, not %v", name, got, want)
	}
}

func sample(n int) []byte {
	l := make([]byte, n)
	for i := range l {
		l[i] = byte(i*37 + i/256 + 11)
	}
	return l
}

func whole[T any](l []T) []T {
	return l[:cap(l)]
}

// point is one that no transaction of the tests makes.
func point(n int) api.Point {
	return api.Point{ID: api.Hash{byte(n), byte(n >> 8), 0xee}, Index: uint32(n)}
}

func out(value int64, script []byte) api.Out {
	return api.Out{Value: value, Script: script}
}

func coin(p api.Point, value int64, script []byte, height int) api.Coin {
	return api.Coin{Point: p, Out: out(value, script), Height: height}
}

func points(l ...api.Point) []api.Point {
	return l
}

func coins(l ...api.Coin) []api.Coin {
	return l
}

// pay is a transaction; lock makes it another one.
func pay(lock int, spends []api.Point, outs ...api.Out) api.Tx {
	t := api.Tx{Version: 2, Lock: uint32(lock), Out: outs}
	for _, p := range spends {
		t.In = append(t.In, api.In{Prev: p, Sequence: math.MaxUint32})
	}
	if len(spends) == 0 {
		t.In = []api.In{{Prev: point(60000 + lock)}}
	}
	return t
}

func idOf(x api.Tx) api.Hash {
	id, e := tx.ID(x)
	if e != api.OK {
		panic(e)
	}
	return id
}

// of is an output's point.
func of(x api.Tx, index int) api.Point {
	return api.Point{ID: idOf(x), Index: uint32(index)}
}

// made is the coin of an output.
func made(x api.Tx, index, height int) api.Coin {
	return api.Coin{Point: of(x, index), Out: x.Out[index], Height: height}
}

// rooted is a block of transactions.
func rooted(txs ...api.Tx) api.Block {
	var ids []api.Hash
	for _, x := range txs {
		ids = append(ids, idOf(x))
	}
	k := api.Block{Header: api.Header{Version: 1, Bits: 0x207fffff}, Txs: txs}
	k.Header.Merkle, _ = block.Merkle(ids)
	return k
}

func sameCoin(x, y api.Coin) bool {
	return x.Point == y.Point && x.Out.Value == y.Out.Value && bytes.Equal(x.Out.Script, y.Out.Script) && x.Height == y.Height
}

func sameCoins(x, y []api.Coin) bool {
	return slices.EqualFunc(x, y, sameCoin)
}

func sameScripts(x, y [][]byte) bool {
	return slices.EqualFunc(x, y, bytes.Equal)
}

// short is coins as a fault tells them.
func short(l []api.Coin) string {
	text := ""
	for _, c := range l {
		text += fmt.Sprintf(" %x:%d %d %.5x @%d", c.Point.ID[:3], c.Point.Index, c.Out.Value, c.Out.Script, c.Height)
	}
	return "[" + text + " ]"
}

// watching is a purse that watches scripts.
func watching(t *testing.T, scripts ...[]byte) *purse.Purse {
	t.Helper()
	p := purse.New()
	for _, s := range scripts {
		want(t, "Watch", p.Watch(s), api.OK)
	}
	return p
}

// holding is a purse that watches a, b and c and has coins.
func holding(t *testing.T, l ...api.Coin) *purse.Purse {
	t.Helper()
	p := watching(t, a, b, c)
	for _, c := range l {
		want(t, "Load", p.Load(c), api.OK)
	}
	return p
}

func apply(t *testing.T, name string, p *purse.Purse, k api.Block, height int) api.Undo {
	t.Helper()
	u, e := p.Apply(k, height)
	want(t, name+": Apply", e, api.OK)
	return u
}

func wantUndo(t *testing.T, name string, u api.Undo, made, spent []api.Coin) {
	t.Helper()
	if !sameCoins(u.Made, made) {
		t.Errorf("%s: Made %s, not %s", name, short(u.Made), short(made))
	}
	if !sameCoins(u.Spent, spent) {
		t.Errorf("%s: Spent %s, not %s", name, short(u.Spent), short(spent))
	}
}

// wantCoins asks for coins in whatever order they are named.
func wantCoins(t *testing.T, name string, p *purse.Purse, l ...api.Coin) {
	t.Helper()
	l = slices.SortedFunc(slices.Values(l), inOrder)
	if got := p.Coins(); !sameCoins(got, l) {
		t.Errorf("%s: Coins %s, not %s", name, short(got), short(l))
	}
}

// inOrder is as the chapter says: by ID, byte by byte, then by place.
func inOrder(x, y api.Coin) int {
	for i := range x.Point.ID {
		if x.Point.ID[i] != y.Point.ID[i] {
			return int(x.Point.ID[i]) - int(y.Point.ID[i])
		}
	}
	return int(x.Point.Index) - int(y.Point.Index)
}

func wantBalance(t *testing.T, name string, p *purse.Purse, want int64, fits bool) {
	t.Helper()
	if got, ok := p.Balance(); got != want || ok != fits {
		t.Errorf("%s: Balance %d, %v; not %d, %v", name, got, ok, want, fits)
	}
}

func wantWatched(t *testing.T, name string, p *purse.Purse, scripts ...[]byte) {
	t.Helper()
	if got := p.Watched(); !sameScripts(got, scripts) {
		t.Errorf("%s: Watched %.4x, not %.4x", name, got, scripts)
	}
	if got := p.Items(); !sameScripts(got, scripts) {
		t.Errorf("%s: Items %.4x, not %.4x", name, got, scripts)
	}
}

// P19.1: a new one has nothing.
func TestNew(t *testing.T) {
	p := purse.New()
	if p == nil {
		t.Fatal("none")
	}
	wantWatched(t, "new", p)
	wantCoins(t, "new", p)
	wantBalance(t, "new", p, 0, true)
	want(t, "Reset", p.Reset(), api.OK)
	want(t, "Back of nothing", p.Back(api.Undo{}), api.OK)
	wantUndo(t, "nothing is watched", apply(t, "nothing is watched", p, rooted(pay(1, nil, out(5, a), out(6, alien))), 1), nil, nil)
	wantCoins(t, "nothing is watched", p)
}

// Example 1: a coin that a block makes and spends.
func TestExample(t *testing.T) {
	p := watching(t, a)
	first := pay(1, nil, out(5, a))
	second := pay(2, points(of(first, 0)), out(5, alien))
	k := rooted(first, second)
	u := apply(t, "made and spent", p, k, 7)
	wantUndo(t, "made and spent", u, coins(made(first, 0, 7)), coins(made(first, 0, 7)))
	wantCoins(t, "made and spent", p)
	want(t, "Back", p.Back(u), api.OK)
	wantCoins(t, "back", p)
}

// P19.1: scripts that can't be watched, those that can.
func TestWatch(t *testing.T) {
	p := purse.New()
	long := sample(api.MaxScript)
	for name, s := range map[string][]byte{
		"nil":            nil,
		"empty":          {},
		"6a":             {0x6a},
		"6a and more":    {0x6a, 0x51},
		"6a 6a":          {0x6a, 0x6a},
		"long":           sample(api.MaxScript + 1),
		"longer":         sample(1 << 20),
		"long, of 6a":    bytes.Repeat([]byte{0x6a}, api.MaxScript+1),
		"the longest 6a": bytes.Repeat([]byte{0x6a}, api.MaxScript),
	} {
		want(t, name, p.Watch(s), api.ErrArg)
		wantWatched(t, name, p)
	}
	scripts := [][]byte{{0x51}, {0x51, 0x51}, {0}, {0, 0}, {0x51, 0x6a}, {0x6b}, {0x69}, {0xff}, long, long[:api.MaxScript-1], {0x51, 0x51, 0x51}, {0x50}}
	for i, s := range scripts {
		want(t, fmt.Sprintf("%.4x", s), p.Watch(s), api.OK)
		wantWatched(t, "one more", p, scripts[:i+1]...)
		want(t, fmt.Sprintf("%.4x again", s), p.Watch(s), api.OK)
		want(t, "the first one again", p.Watch(scripts[0]), api.OK)
		wantWatched(t, "again", p, scripts[:i+1]...)
	}
}

// P19.1: MaxWatch scripts are watched, and no more; those that are watched are told ahead of the limit, those that can't be ahead of both.
func TestWatchFull(t *testing.T) {
	p := purse.New()
	var all [][]byte
	for i := range api.MaxWatch {
		all = append(all, []byte{byte(200 - i), 7})
		want(t, "Watch", p.Watch(all[i]), api.OK)
	}
	for range 2 {
		want(t, "one more", p.Watch([]byte{1}), api.ErrFull)
		want(t, "one more, long", p.Watch(sample(api.MaxScript)), api.ErrFull)
		want(t, "none", p.Watch(nil), api.ErrArg)
		want(t, "6a", p.Watch([]byte{0x6a, 1}), api.ErrArg)
		want(t, "too long", p.Watch(sample(api.MaxScript+1)), api.ErrArg)
		for _, s := range all {
			want(t, "one that is watched", p.Watch(s), api.OK)
		}
		wantWatched(t, "full", p, all...)
	}
	last := pay(1, nil, out(1, all[api.MaxWatch-1]), out(1, []byte{1}), out(1, all[0]))
	apply(t, "full", p, rooted(last), 1)
	wantCoins(t, "full", p, made(last, 0, 1), made(last, 2, 1))
}

// P19.1: the coins go, the scripts stay.
func TestReset(t *testing.T) {
	p := holding(t, coin(point(1), 5, alien, 1), coin(point(2), math.MaxInt64, a, 2))
	first := pay(1, nil, out(3, a), out(4, b))
	u := apply(t, "Apply", p, rooted(first), 3)
	for range 2 {
		want(t, "Reset", p.Reset(), api.OK)
		wantCoins(t, "Reset", p)
		wantBalance(t, "Reset", p, 0, true)
		wantWatched(t, "Reset", p, a, b, c)
	}
	want(t, "Back, behind Reset", p.Back(u), api.ErrSpent)
	wantUndo(t, "spends what went", apply(t, "Apply", p, rooted(pay(2, points(point(1), of(first, 0)))), 4), nil, nil)
	wantUndo(t, "once more", apply(t, "Apply", p, rooted(first), 5), coins(made(first, 0, 5), made(first, 1, 5)), nil)
	wantCoins(t, "once more", p, made(first, 0, 5), made(first, 1, 5))
}

// P19.1: a coin is there as it was loaded, whatever its script and its height are, in the place of one of its point.
func TestLoad(t *testing.T) {
	p := watching(t, a)
	for _, value := range []int64{-1, -2, math.MinInt64} {
		want(t, "below 0", p.Load(coin(point(1), value, a, 1)), api.ErrArg)
		wantCoins(t, "below 0", p)
	}
	one := coin(point(1), 0, a, 1)
	want(t, "of 0", p.Load(one), api.OK)
	wantCoins(t, "of 0", p, one)
	want(t, "below 0", p.Load(coin(point(1), -5, a, 1)), api.ErrArg)
	wantCoins(t, "below 0, where one is", p, one)
	all := coins(one,
		coin(point(2), math.MaxInt64, alien, 0),
		coin(point(3), 1, nil, -1),
		coin(point(4), 2, []byte{0x6a}, math.MinInt),
		coin(point(5), 3, sample(api.MaxScript+1), math.MaxInt),
		coin(api.Point{}, 4, b, 4),
		coin(api.Point{ID: point(1).ID, Index: math.MaxUint32}, 5, c, 5),
		coin(api.Point{ID: api.Hash{31: 255}}, 6, c, 6),
	)
	for i, c := range all[1:] {
		want(t, "Load", p.Load(c), api.OK)
		wantCoins(t, "Load", p, all[:i+2]...)
	}
	for i := range all {
		all[i] = coin(all[i].Point, int64(i), []byte{byte(i), 9}, 100+i)
		want(t, "in its place", p.Load(all[i]), api.OK)
		wantCoins(t, "in its place", p, all...)
	}
	wantWatched(t, "Load", p, a)
}

// P19.2: blocks that are none change nothing.
func TestApplyNot(t *testing.T) {
	held := coin(point(1), 5, a, 1)
	good := rooted(pay(1, points(point(1)), out(1, a)), pay(2, nil, out(2, b)))
	bad := func(change func(*api.Block)) api.Block {
		k := rooted(slices.Clone(good.Txs)...)
		change(&k)
		return k
	}
	many := make([]api.Tx, 2001)
	for i := range many {
		many[i] = pay(i, points(point(1)), out(1, a))
	}
	for name, k := range map[string]api.Block{
		"nothing":         {},
		"no transactions": bad(func(k *api.Block) { k.Txs = nil }),
		"the first byte":  bad(func(k *api.Block) { k.Header.Merkle[0] ^= 1 }),
		"the last byte":   bad(func(k *api.Block) { k.Header.Merkle[31] ^= 128 }),
		"one is lacking":  bad(func(k *api.Block) { k.Txs = k.Txs[:1] }),
		"one too many":    bad(func(k *api.Block) { k.Txs = append(k.Txs, k.Txs[0]) }),
		"turned":          bad(func(k *api.Block) { slices.Reverse(k.Txs) }),
		"below 0":         bad(func(k *api.Block) { k.Txs[1].Out = []api.Out{{Value: -1, Script: a}} }),
		"no input":        bad(func(k *api.Block) { k.Txs[1].In = nil }),
		"twins":           rooted(good.Txs[0], good.Txs[0]),
		"twins behind":    rooted(good.Txs[0], good.Txs[1], good.Txs[1], good.Txs[1]),
		"64 bytes":        rooted(good.Txs[0], pay(3, nil, out(1, sample(4)))),
		"too many":        rooted(many...),
	} {
		p := holding(t, held)
		u, e := p.Apply(k, 2)
		want(t, name, e, api.ErrBlock)
		wantUndo(t, name, u, nil, nil)
		wantCoins(t, name, p, held)
	}
	p := holding(t, held)
	apply(t, "good", p, good, 2)
	wantCoins(t, "good", p, made(good.Txs[0], 0, 2), made(good.Txs[1], 0, 2))
	p = holding(t, held)
	u := apply(t, "2000", p, rooted(many[:2000]...), 2)
	if len(u.Made) != 2000 || len(u.Spent) != 1 {
		t.Error(len(u.Made), len(u.Spent))
	}
}

// P19.2: outputs of scripts that are watched, wherever they stand, are coins; others are none.
func TestApplyMade(t *testing.T) {
	first := pay(1, nil, out(5, alien), out(6, a), out(0, b), out(7, nil), out(8, a[:0]), out(math.MaxInt64, c))
	second := pay(2, nil)
	third := pay(3, nil, out(6, a), out(6, a), out(1, []byte{0x6a}), out(2, []byte{0x6a, 0x51}), out(3, b[:1]), out(4, append(slices.Clone(c), 0x51)), out(5, []byte{0x51, 0x51}))
	third.In[0].Witness = [][]byte{{1}}
	for _, height := range []int{0, 1, -1, 1 << 40, math.MaxInt, math.MinInt} {
		p := watching(t, c, a, b)
		all := coins(made(first, 1, height), made(first, 2, height), made(first, 5, height), made(third, 0, height), made(third, 1, height), made(third, 6, height))
		u := apply(t, "made", p, rooted(first, second, third), height)
		wantUndo(t, "made", u, all, nil)
		wantCoins(t, "made", p, all...)
	}
}

// P19.2: a script that is watched later has coins from then on.
func TestApplyLater(t *testing.T) {
	p := watching(t, a)
	first, second := pay(1, nil, out(5, a), out(6, b)), pay(2, nil, out(7, a), out(8, b))
	apply(t, "ahead", p, rooted(first), 1)
	want(t, "Watch", p.Watch(b), api.OK)
	wantCoins(t, "watched later", p, made(first, 0, 1))
	apply(t, "behind", p, rooted(second), 2)
	wantCoins(t, "behind", p, made(first, 0, 1), made(second, 0, 2), made(second, 1, 2))
}

// P19.2: inputs spend coins by their points, whatever the scripts of these are.
func TestApplySpent(t *testing.T) {
	all := coins(coin(point(1), 5, a, 1), coin(point(2), 6, alien, 2), coin(point(3), 7, nil, 3), coin(api.Point{}, 8, b, 4), coin(point(5), 9, a, 5))
	near := api.Point{ID: point(5).ID, Index: point(5).Index + 1}
	far := point(5)
	far.ID[31] = 1
	p := holding(t, all...)
	k := rooted(
		pay(1, points(point(9), point(3), near, point(1), point(3), far)),
		pay(2, points(point(1), point(2), point(9)), out(1, a)),
		pay(3, points(api.Point{})),
	)
	u := apply(t, "spent", p, k, 6)
	wantUndo(t, "spent", u, coins(made(k.Txs[1], 0, 6)), coins(all[2], all[0], all[1], all[3]))
	wantCoins(t, "spent", p, all[4], made(k.Txs[1], 0, 6))
	u = apply(t, "spent before", p, rooted(pay(4, points(point(1), point(3), point(2), api.Point{}))), 7)
	wantUndo(t, "spent before", u, nil, nil)
}

// P19.2: transaction by transaction, inputs ahead of outputs: what is made behind is not spent ahead.
func TestApplyOrder(t *testing.T) {
	p := watching(t, a, b)
	first := pay(1, nil, out(5, a), out(6, b))
	second := pay(2, points(of(first, 1), of(first, 0)), out(7, b), out(8, a))
	third := pay(3, points(of(second, 1)), out(9, a))
	early := pay(4, points(of(third, 0), of(first, 0)), out(10, a))
	u := apply(t, "order", p, rooted(early, first, second, third), 1)
	wantUndo(t, "order", u,
		coins(made(early, 0, 1), made(first, 0, 1), made(first, 1, 1), made(second, 0, 1), made(second, 1, 1), made(third, 0, 1)),
		coins(made(first, 1, 1), made(first, 0, 1), made(second, 1, 1)))
	wantCoins(t, "order", p, made(early, 0, 1), made(second, 0, 1), made(third, 0, 1))
	want(t, "Back", p.Back(u), api.OK)
	wantCoins(t, "back", p)
}

// P19.2: an output whose point a coin has makes none: the coin stays as it is.
func TestApplyThere(t *testing.T) {
	p := watching(t, a, b)
	first := pay(1, nil, out(5, a), out(6, b))
	apply(t, "once", p, rooted(first), 1)
	u := apply(t, "twice", p, rooted(pay(2, nil), first), 2)
	wantUndo(t, "twice", u, nil, nil)
	wantCoins(t, "twice", p, made(first, 0, 1), made(first, 1, 1))
	spends := pay(3, points(of(first, 0)))
	u = apply(t, "one is spent ahead", p, rooted(spends, first), 3)
	wantUndo(t, "one is spent ahead", u, coins(made(first, 0, 3)), coins(made(first, 0, 1)))
	wantCoins(t, "one is spent ahead", p, made(first, 0, 3), made(first, 1, 1))
	want(t, "Back", p.Back(u), api.OK)
	wantCoins(t, "back", p, made(first, 0, 1), made(first, 1, 1))
	strange := coin(of(first, 1), 77, alien, 9)
	want(t, "Load", p.Load(strange), api.OK)
	u = apply(t, "another one is there", p, rooted(first), 4)
	wantUndo(t, "another one is there", u, nil, nil)
	wantCoins(t, "another one is there", p, made(first, 0, 1), strange)
}

// P19.2: a transaction that stands in a block more than once.
func TestApplyTwice(t *testing.T) {
	p := watching(t, a)
	first := pay(1, nil, out(5, a))
	spends := pay(2, points(of(first, 0)))
	u := apply(t, "not spent between", p, rooted(first, pay(3, nil), first), 1)
	wantUndo(t, "not spent between", u, coins(made(first, 0, 1)), nil)
	want(t, "Back", p.Back(u), api.OK)
	u = apply(t, "spent between", p, rooted(first, spends, first), 1)
	wantUndo(t, "spent between", u, coins(made(first, 0, 1), made(first, 0, 1)), coins(made(first, 0, 1)))
	wantCoins(t, "spent between", p, made(first, 0, 1))
	want(t, "Back", p.Back(u), api.OK)
	wantCoins(t, "back", p)
	held := coin(of(first, 0), 9, alien, 0)
	want(t, "Load", p.Load(held), api.OK)
	u = apply(t, "spent twice", p, rooted(spends, first, spends), 1)
	wantUndo(t, "spent twice", u, coins(made(first, 0, 1)), coins(held, made(first, 0, 1)))
	wantCoins(t, "spent twice", p)
	want(t, "Back", p.Back(u), api.OK)
	wantCoins(t, "back", p, held)
}

// P19.2: what can't be taken back, told in this order, changes nothing.
func TestBackNot(t *testing.T) {
	there, gone, lost := coin(point(1), 5, a, 1), coin(point(2), 6, b, 2), coin(point(3), 7, c, 3)
	debt := coin(point(4), -1, a, 4)
	near := there
	near.Point.Index++
	far := there
	far.Point.ID[31] ^= 1
	for _, x := range []struct {
		name string
		u    api.Undo
		e    api.Errno
	}{
		{"a debt", api.Undo{Spent: coins(debt)}, api.ErrArg},
		{"the greatest debt", api.Undo{Spent: coins(coin(point(4), math.MinInt64, a, 4))}, api.ErrArg},
		{"a debt behind", api.Undo{Made: coins(there), Spent: coins(gone, debt)}, api.ErrArg},
		{"a debt ahead", api.Undo{Made: coins(there), Spent: coins(debt, gone)}, api.ErrArg},
		{"a debt that was made", api.Undo{Made: coins(debt), Spent: coins(debt)}, api.ErrArg},
		{"a debt, and one is lost", api.Undo{Made: coins(lost), Spent: coins(debt)}, api.ErrArg},
		{"lost", api.Undo{Made: coins(lost)}, api.ErrSpent},
		{"lost, another one spent", api.Undo{Made: coins(lost), Spent: coins(gone)}, api.ErrSpent},
		{"lost behind", api.Undo{Made: coins(there, gone, lost), Spent: coins(gone)}, api.ErrSpent},
		{"lost ahead", api.Undo{Made: coins(lost, there)}, api.ErrSpent},
		{"lost, of a value below 0", api.Undo{Made: coins(debt)}, api.ErrSpent},
		{"another place", api.Undo{Made: coins(near)}, api.ErrSpent},
		{"another ID", api.Undo{Made: coins(far)}, api.ErrSpent},
	} {
		p := holding(t, there)
		want(t, x.name, p.Back(x.u), x.e)
		wantCoins(t, x.name, p, there)
	}
}

// P19.2: those made are no more, those spent are there again.
func TestBack(t *testing.T) {
	there, gone, other := coin(point(1), 5, a, 1), coin(point(2), 6, b, 2), coin(point(3), 7, nil, -3)
	turned := coin(point(1), 50, alien, 10)
	debt := coin(point(1), -1, a, 1)
	for _, x := range []struct {
		name  string
		u     api.Undo
		coins []api.Coin
	}{
		{"nothing", api.Undo{}, coins(there)},
		{"nothing, by empty lists", api.Undo{Made: coins(), Spent: coins()}, coins(there)},
		{"made", api.Undo{Made: coins(there)}, nil},
		{"made twice", api.Undo{Made: coins(there, there)}, nil},
		{"made, of another value", api.Undo{Made: coins(turned)}, nil},
		{"made, of a value below 0", api.Undo{Made: coins(debt)}, nil},
		{"spent", api.Undo{Spent: coins(gone, other)}, coins(there, gone, other)},
		{"spent, of 0", api.Undo{Spent: coins(coin(point(2), 0, b, 2))}, coins(there, coin(point(2), 0, b, 2))},
		{"spent twice", api.Undo{Spent: coins(gone, gone)}, coins(there, gone)},
		{"made and spent", api.Undo{Made: coins(there), Spent: coins(other, gone)}, coins(gone, other)},
		{"made and spent by it", api.Undo{Made: coins(gone), Spent: coins(gone)}, coins(there)},
		{"made and spent by it twice", api.Undo{Made: coins(gone, gone), Spent: coins(gone, gone)}, coins(there)},
		{"in the place of one", api.Undo{Spent: coins(turned)}, coins(turned)},
		{"in the place of the one made", api.Undo{Made: coins(there), Spent: coins(turned)}, coins(turned)},
		{"spent by it, another one made", api.Undo{Made: coins(other, gone), Spent: coins(gone, other)}, coins(there)},
	} {
		p := holding(t, there)
		want(t, x.name, p.Back(x.u), api.OK)
		wantCoins(t, x.name, p, x.coins...)
	}
}

// P19.2: a coin that was spent is there again, unless one that was made is the same in all parts.
func TestBackAlike(t *testing.T) {
	one := coin(point(2), 6, b, 2)
	for name, other := range map[string]api.Coin{
		"value":         coin(point(2), 7, b, 2),
		"script":        coin(point(2), 6, []byte{0x52, 0x6b}, 2),
		"script's head": coin(point(2), 6, b[:1], 2),
		"no script":     coin(point(2), 6, nil, 2),
		"height":        coin(point(2), 6, b, 3),
		"all":           coin(point(2), 0, nil, 0),
	} {
		p := holding(t)
		want(t, name, p.Back(api.Undo{Made: coins(one), Spent: coins(other)}), api.OK)
		wantCoins(t, name, p, other)
		want(t, name, p.Back(api.Undo{Made: coins(one), Spent: coins(one, other)}), api.OK)
		wantCoins(t, name+", and the same", p, other)
		want(t, name, p.Back(api.Undo{Made: coins(one), Spent: coins(other, one)}), api.OK)
		wantCoins(t, name+", and the same behind", p, other)
		want(t, name, p.Back(api.Undo{Made: coins(other, one), Spent: coins(one, other)}), api.OK)
		wantCoins(t, name+", both made", p)
	}
	p := holding(t)
	want(t, "nil and empty", p.Back(api.Undo{Made: coins(coin(point(2), 6, nil, 2)), Spent: coins(coin(point(2), 6, []byte{}, 2))}), api.OK)
	wantCoins(t, "nil and empty", p)
}

// P19.2: one by one: of several of one point the last one.
func TestBackOneByOne(t *testing.T) {
	p := holding(t)
	var l []api.Coin
	for i := range 5 {
		l = append(l, coin(point(2), int64(i), a, i))
		want(t, "Back", p.Back(api.Undo{Spent: l}), api.OK)
		wantCoins(t, "the last one", p, l[i])
	}
	slices.Reverse(l)
	want(t, "Back", p.Back(api.Undo{Spent: l}), api.OK)
	wantCoins(t, "the first one", p, l[4])
}

// P19.3: in order, however they came: by each byte of the ID as it stands, then by the place as a number.
func TestCoinsOrder(t *testing.T) {
	var all []api.Coin
	for i := range len(api.Hash{}) {
		for _, top := range []byte{1, 127, 128, 255} {
			p := api.Point{}
			p.ID[i] = top
			all = append(all, coin(p, int64(i), a, 1000-i))
		}
	}
	for _, index := range []uint32{0, 1, 255, 256, 1 << 16, 1 << 24, math.MaxInt32, 1 << 31, math.MaxUint32} {
		all = append(all, coin(api.Point{Index: index}, 1, b, 0), coin(api.Point{ID: api.Hash{3, 1, 255}, Index: index}, 1, b, 0), coin(api.Point{ID: api.Hash{3, 2}, Index: index}, 1, b, 0))
	}
	r := rand.New(rand.NewSource(19))
	for range 20 {
		r.Shuffle(len(all), func(i, j int) { all[i], all[j] = all[j], all[i] })
		wantCoins(t, "in order", holding(t, all...), all...)
	}
	l := holding(t, all...).Coins()
	if !slices.IsSortedFunc(l, inOrder) || l[0].Point != (api.Point{}) || l[len(l)-1].Point.ID[0] != 255 {
		t.Error(short(l))
	}
}

// P19.3: the sum of all values, up to MaxMoney.
func TestBalance(t *testing.T) {
	for _, x := range []struct {
		values []int64
		sum    int64
		fits   bool
	}{
		{nil, 0, true},
		{[]int64{0}, 0, true},
		{[]int64{0, 0, 7}, 7, true},
		{[]int64{1, 20, 300, 4000}, 4321, true},
		{[]int64{api.MaxMoney}, api.MaxMoney, true},
		{[]int64{api.MaxMoney, 0, 0}, api.MaxMoney, true},
		{[]int64{api.MaxMoney - 1, 1}, api.MaxMoney, true},
		{[]int64{1 << 62, 1<<62 - 1}, api.MaxMoney, true},
		{[]int64{api.MaxMoney, 1}, 0, false},
		{[]int64{1 << 62, 1 << 62}, 0, false},
		{[]int64{api.MaxMoney, api.MaxMoney}, 0, false},
		{[]int64{api.MaxMoney, api.MaxMoney, 2}, 0, false},
		{[]int64{api.MaxMoney, api.MaxMoney, api.MaxMoney, api.MaxMoney}, 0, false},
		{[]int64{api.MaxMoney, api.MaxMoney, 2, 5, 6}, 0, false},
	} {
		for range 5 {
			p := holding(t)
			for i, value := range x.values {
				want(t, "Load", p.Load(coin(point(i), value, []byte{byte(i)}, i)), api.OK)
			}
			wantBalance(t, fmt.Sprint(x.values), p, x.sum, x.fits)
		}
	}
	p := holding(t, coin(point(1), api.MaxMoney, a, 1), coin(point(2), 3, a, 1))
	wantBalance(t, "over", p, 0, false)
	u := apply(t, "spent", p, rooted(pay(1, points(point(1)))), 2)
	wantBalance(t, "no more over", p, 3, true)
	want(t, "Back", p.Back(u), api.OK)
	wantBalance(t, "over again", p, 0, false)
}

// One that no call made answers ErrNil and noughts, ahead of other errors.
func TestNoPurse(t *testing.T) {
	var none *purse.Purse
	for name, p := range map[string]*purse.Purse{"nil": none, "plain": {}} {
		for _, s := range [][]byte{nil, a, {0x6a}} {
			want(t, name+" Watch", p.Watch(s), api.ErrNil)
		}
		want(t, name+" Reset", p.Reset(), api.ErrNil)
		want(t, name+" Load", p.Load(coin(point(1), 1, a, 1)), api.ErrNil)
		want(t, name+" Load", p.Load(coin(point(1), -1, a, 1)), api.ErrNil)
		for _, k := range []api.Block{{}, rooted(pay(1, nil, out(1, a)))} {
			u, e := p.Apply(k, 1)
			want(t, name+" Apply", e, api.ErrNil)
			wantUndo(t, name, u, nil, nil)
		}
		for _, u := range []api.Undo{{}, {Made: coins(coin(point(1), 1, a, 1))}, {Spent: coins(coin(point(1), -1, a, 1))}} {
			want(t, name+" Back", p.Back(u), api.ErrNil)
		}
		wantWatched(t, name, p)
		wantCoins(t, name, p)
		wantBalance(t, name, p, 0, false)
	}
}

// A copy of its value is the same one; two are not.
func TestValueCopy(t *testing.T) {
	p, other := purse.New(), purse.New()
	q := *p
	want(t, "Watch", p.Watch(a), api.OK)
	want(t, "Watch", q.Watch(b), api.OK)
	want(t, "Load", q.Load(coin(point(1), 1, a, 1)), api.OK)
	want(t, "Load", p.Load(coin(point(2), 2, b, 2)), api.OK)
	for name, x := range map[string]*purse.Purse{"the purse": p, "the copy": &q} {
		wantWatched(t, name, x, a, b)
		wantCoins(t, name, x, coin(point(1), 1, a, 1), coin(point(2), 2, b, 2))
	}
	wantWatched(t, "another one", other)
	wantCoins(t, "another one", other)
	want(t, "Reset", q.Reset(), api.OK)
	wantCoins(t, "the purse", p)
	want(t, "Load", p.Load(coin(point(3), 3, b, 3)), api.OK)
	wantCoins(t, "the copy", &q, coin(point(3), 3, b, 3))
}

// roomy is a list with something behind its end.
func roomy[T any](l []T, behind ...T) []T {
	return append(slices.Clone(l), behind...)[: len(l) : len(l)+len(behind)]
}

func roomyCoins(l ...api.Coin) []api.Coin {
	for i := range l {
		l[i].Out.Script = roomy(l[i].Out.Script, 1, 2, 3)
	}
	return roomy(l, coin(point(99), 99, []byte{99}, 99))
}

func roomyBlock(k api.Block) api.Block {
	k.Txs = roomy(k.Txs, pay(77, nil, out(77, a)))
	for i := range k.Txs {
		x := &k.Txs[i]
		x.In = roomy(x.In, api.In{Prev: point(1)})
		x.Out = roomy(x.Out, out(88, a))
		for j := range x.Out {
			x.Out[j].Script = roomy(x.Out[j].Script, 0x51, 4)
		}
	}
	return k
}

// all is whatever is in lists of coins, behind their ends as well.
func all(lists ...[]api.Coin) string {
	text := ""
	for _, l := range lists {
		for _, c := range whole(l) {
			text += fmt.Sprint(c, whole(c.Out.Script))
		}
	}
	return text
}

func allOf(k api.Block) string {
	text := fmt.Sprint(k.Header)
	for _, x := range whole(k.Txs) {
		text += fmt.Sprint(x, whole(x.In), whole(x.Out))
		for _, o := range whole(x.Out) {
			text += fmt.Sprint(whole(o.Script))
		}
	}
	return text
}

func spoil(l []api.Coin) {
	for i := range whole(l) {
		clear(whole(whole(l)[i].Out.Script))
		whole(l)[i] = api.Coin{Height: -7}
	}
}

// What is handed in is neither changed, the room behind its end included, nor kept.
func TestArguments(t *testing.T) {
	script := roomy(a, 9, 9)
	p := watching(t, script)
	if !bytes.Equal(whole(script), []byte{0x51, 9, 9}) {
		t.Error(whole(script))
	}
	clear(whole(script))
	wantWatched(t, "Watch", p, a)
	l := roomyCoins(coin(point(1), 1, b, 1), coin(point(2), 2, b, 2))
	before := all(l)
	for _, c := range l {
		want(t, "Load", p.Load(c), api.OK)
	}
	if all(l) != before {
		t.Error("Load changes a coin")
	}
	spoil(l)
	wantCoins(t, "Load", p, coin(point(1), 1, b, 1), coin(point(2), 2, b, 2))

	first := pay(1, points(point(1)), out(5, a), out(6, a))
	k := roomyBlock(rooted(first, pay(2, points(point(8)), out(7, a))))
	second := pay(2, points(point(8)), out(7, a))
	same := allOf(k)
	u := apply(t, "Apply", p, k, 3)
	purse.Effects(u, k, 3)
	if allOf(k) != same {
		t.Error("a block is changed")
	}
	for i := range k.Txs {
		for j := range k.Txs[i].Out {
			clear(whole(k.Txs[i].Out[j].Script))
			k.Txs[i].Out[j] = api.Out{}
		}
		k.Txs[i] = api.Tx{}
	}
	wantUndo(t, "the block goes", u, coins(made(first, 0, 3), made(first, 1, 3), made(second, 0, 3)), coins(coin(point(1), 1, b, 1)))
	wantCoins(t, "the block goes", p, made(first, 0, 3), made(first, 1, 3), made(second, 0, 3), coin(point(2), 2, b, 2))

	u = api.Undo{Made: roomyCoins(made(first, 0, 3), made(first, 1, 3)), Spent: roomyCoins(coin(point(1), 1, b, 1), coin(point(4), 4, c, 4), made(first, 1, 3))}
	before = all(u.Made, u.Spent)
	purse.Effects(u, rooted(first, second), 3)
	want(t, "Back", p.Back(u), api.OK)
	if all(u.Made, u.Spent) != before {
		t.Error("Back changes what it takes back")
	}
	spoil(u.Made)
	spoil(u.Spent)
	wantCoins(t, "Back", p, made(second, 0, 3), coin(point(2), 2, b, 2), coin(point(1), 1, b, 1), coin(point(4), 4, c, 4))
}

// Answers are new memory, spare room included, and share none with each other.
func TestAnswersNew(t *testing.T) {
	for n := range 12 {
		var scripts [][]byte
		var txs []api.Tx
		var made1, all1 []api.Coin
		p := purse.New()
		for i := range n {
			scripts = append(scripts, append([]byte{byte(i + 1)}, sample(i*3)...))
			want(t, "Watch", p.Watch(scripts[i]), api.OK)
			txs = append(txs, pay(i+1, nil, out(1, scripts[i]), out(2, scripts[i])))
			made1 = append(made1, made(txs[i], 0, 1), made(txs[i], 1, 1))
			all1 = append(all1, made(txs[i], 1, 1))
		}
		txs = append(txs, pay(100, nil))
		for i := range n {
			txs[n].In = append(txs[n].In, api.In{Prev: of(txs[i], 0)})
		}
		u := apply(t, "Apply", p, rooted(txs...), 1)
		lists := [][]api.Coin{p.Coins(), p.Coins(), u.Made, u.Spent}
		texts := [][][]byte{p.Watched(), p.Items(), p.Watched()}
		name := fmt.Sprint(n, " coins")
		for i, l := range lists {
			rest := slices.Delete(slices.Clone(lists), i, i+1)
			before := all(rest...)
			spoil(l)
			if all(rest...) != before {
				t.Errorf("%s: lists %d and another one share memory", name, i)
			}
		}
		for _, l := range texts {
			if !sameScripts(l, scripts) {
				t.Errorf("%s: scripts are shared", name)
			}
			for i := range l {
				clear(whole(l[i]))
			}
			clear(whole(l))
		}
		wantWatched(t, name, p, scripts...)
		wantCoins(t, name, p, all1...)
		u = api.Undo{Made: made1}
		for i := range n {
			u.Spent = append(u.Spent, made(txs[i], 0, 1))
		}
		want(t, name, p.Back(u), api.OK)
		wantCoins(t, name, p)
	}
}

// Scripts of a coin that is there and of one that is told are apart, those of coins with one script as well.
func TestScriptsApart(t *testing.T) {
	p := watching(t, a)
	first := pay(1, nil, out(1, a), out(2, a))
	second := pay(2, points(of(first, 0), of(first, 1)), out(3, a))
	u := apply(t, "Apply", p, rooted(first, second), 1)
	l := slices.Concat(u.Made, u.Spent, p.Coins(), p.Coins())
	for i := range l {
		l[i].Out.Script[0] = byte(i)
	}
	for i := range l {
		if l[i].Out.Script[0] != byte(i) {
			t.Errorf("the script of coin %d is another one's", i)
		}
	}
	wantCoins(t, "the purse's", p, made(second, 0, 1))
	wantWatched(t, "the purse's", p, a)
}

// Blocks, and coins that went, are let go.
func TestLetsGo(t *testing.T) {
	p := watching(t, a)
	before := heap()
	for i := range 40 {
		first := pay(i, points(point(i)), out(1, a))
		first.Out = append(first.Out, out(1, alien))
		for range 100 {
			first.Out = append(first.Out, out(1, append(slices.Clone(alien), make([]byte, 9000)...)))
		}
		want(t, "Load", p.Load(coin(point(i), 1, make([]byte, 1<<20), 1)), api.OK)
		apply(t, "Apply", p, rooted(first), i)
	}
	for i := range 40 {
		want(t, "Load", p.Load(coin(point(i), 1, make([]byte, 1<<20), 1)), api.OK)
	}
	want(t, "Reset", p.Reset(), api.OK)
	if kept := int64(heap()) - int64(before); kept > 1<<20 {
		t.Errorf("%d bytes are kept", kept)
	}
	runtime.KeepAlive(p)
}

func heap() uint64 {
	runtime.GC()
	var m runtime.MemStats
	runtime.ReadMemStats(&m)
	return m.HeapAlloc
}

// Many coins end soon.
func TestMany(t *testing.T) {
	const n = 1 << 17
	begin := time.Now()
	p := watching(t, a)
	var u api.Undo
	for i := range n {
		one := coin(point(i), int64(i), a, 1)
		want(t, "Load", p.Load(one), api.OK)
		u.Made = append(u.Made, one)
		u.Spent = append(u.Spent, coin(point(1), int64(i), a, 2), coin(point(i), 5, a, 3))
	}
	if l := p.Coins(); len(l) != n {
		t.Error(len(l))
	}
	wantBalance(t, "many", p, n*(n-1)/2, true)
	want(t, "Back", p.Back(u), api.OK)
	if l := p.Coins(); len(l) != n {
		t.Error(len(l))
	}
	wantBalance(t, "others", p, 5*n-5+n-1, true)
	k := rooted(pay(1, nil, slices.Repeat([]api.Out{out(1, a)}, 2000)...))
	k.Txs[0].In = slices.Repeat([]api.In{{Prev: point(1)}}, 2000)
	k = rooted(slices.Repeat(k.Txs, 1)...)
	if l := purse.Effects(u, k, 1); len(l) != 1 || l[0].Paid != n*(n-1)/2+5 {
		t.Error(l)
	}
	if took := time.Since(begin); took > 20*time.Second {
		t.Error(took)
	}
}
