package purse_test

import (
	"fmt"
	"math"
	"slices"
	"testing"

	"sporran/api"
	"sporran/purse"
)

func entry(x api.Tx, height int, got, paid int64) api.Entry {
	return api.Entry{ID: idOf(x), Height: height, Got: got, Paid: paid}
}

func wantEffects(t *testing.T, name string, u api.Undo, txs []api.Tx, height int, want ...api.Entry) {
	t.Helper()
	if got := purse.Effects(u, api.Block{Txs: txs}, height); !slices.Equal(got, want) {
		t.Errorf("%s: %.3x, not %.3x", name, got, want)
	}
}

// P19.4: what transactions got and paid, of those that did something, in the block's order.
func TestEffects(t *testing.T) {
	gets := pay(1, nil, out(5, a), out(50, alien), out(6, b))
	nothing := pay(2, points(point(3)), out(7, alien))
	pays := pay(3, points(point(9), point(1), of(gets, 0), point(2)))
	swaps := pay(4, points(point(4)), out(1, a))
	p := holding(t, coin(point(1), 10, a, 1), coin(point(2), 20, alien, 1), coin(point(4), 1, a, 1))
	k := rooted(gets, nothing, pays, swaps)
	for _, height := range []int{0, 9, -3, math.MaxInt, math.MinInt} {
		u := apply(t, "Apply", p, k, height)
		got := purse.Effects(u, k, height)
		if !slices.Equal(got, []api.Entry{entry(gets, height, 11, 0), entry(pays, height, 0, 35), entry(swaps, height, 1, 1)}) {
			t.Error(got)
		}
		want(t, "Back", p.Back(u), api.OK)
		slices.Reverse(k.Txs)
		wantEffects(t, "turned", u, k.Txs, height, entry(swaps, height, 1, 1), entry(pays, height, 0, 35), entry(gets, height, 11, 0))
		slices.Reverse(k.Txs)
	}
}

// P19.4: transactions of which no coin was made or spent have no entry; of coins of value 0 they have one.
func TestEffectsNone(t *testing.T) {
	one := pay(1, points(point(1)), out(5, a))
	wantEffects(t, "nothing", api.Undo{}, nil, 1)
	wantEffects(t, "a block that did nothing", api.Undo{}, []api.Tx{one, one, {}}, 1)
	wantEffects(t, "no block", api.Undo{Made: coins(made(one, 0, 1)), Spent: coins(coin(point(1), 1, a, 1))}, nil, 1)
	near := of(one, 0)
	near.ID[31] ^= 1
	other := point(1)
	other.Index++
	u := api.Undo{Made: coins(coin(near, 5, a, 1), coin(point(1), 5, a, 1)), Spent: coins(coin(other, 6, a, 1), coin(of(one, 0), 5, a, 1))}
	wantEffects(t, "others", u, []api.Tx{one}, 1)
	wantEffects(t, "got 0", api.Undo{Made: coins(coin(of(one, 0), 0, a, 1))}, []api.Tx{one}, 1, entry(one, 1, 0, 0))
	wantEffects(t, "paid 0", api.Undo{Spent: coins(coin(point(1), 0, a, 1))}, []api.Tx{one}, 1, entry(one, 1, 0, 0))
}

// P19.4: coins count by their IDs and points, whatever else they have; which block they are said to be of plays no part.
func TestEffectsByHand(t *testing.T) {
	one := pay(1, points(point(1), point(2)), out(5, a))
	u := api.Undo{
		Made:  coins(coin(of(one, 0), 1, nil, 5), coin(of(one, 7), 20, alien, -1), coin(of(one, math.MaxInt32), 300, b, 1)),
		Spent: coins(coin(point(2), 4000, nil, 1), coin(point(1), 50000, alien, 9)),
	}
	wantEffects(t, "by hand", u, []api.Tx{one}, 2, entry(one, 2, 321, 54000))
	k := rooted(one)
	k.Header.Merkle[3] ^= 1
	if got := purse.Effects(u, k, 2); !slices.Equal(got, []api.Entry{entry(one, 2, 321, 54000)}) {
		t.Error(got)
	}
	many := slices.Repeat([]api.Tx{pay(2, nil)}, 2500)
	many[2400] = one
	wantEffects(t, "many", u, many, 2, entry(one, 2, 321, 54000))
	blind := one
	blind.In = slices.Clone(one.In)
	blind.In[0].Witness = [][]byte{{1, 2, 3}}
	wantEffects(t, "with a witness", u, []api.Tx{blind}, 2, entry(one, 2, 321, 54000))
}

// P19.4: of a transaction that stands there more than once each one got all that its ID got, and paid all that it names.
func TestEffectsTwice(t *testing.T) {
	one := pay(1, points(point(1)), out(5, a))
	spends := pay(2, points(of(one, 0)))
	u := api.Undo{Made: coins(made(one, 0, 3), made(one, 0, 3)), Spent: coins(coin(point(1), 7, b, 1), made(one, 0, 3))}
	wantEffects(t, "twice", u, []api.Tx{one, spends, one}, 3, entry(one, 3, 10, 7), entry(spends, 3, 0, 5), entry(one, 3, 10, 7))
	p := holding(t, coin(point(1), 7, b, 1))
	k := rooted(one, spends, one)
	u = apply(t, "Apply", p, k, 3)
	wantEffects(t, "twice, done", u, k.Txs, 3, entry(one, 3, 10, 7), entry(spends, 3, 0, 5), entry(one, 3, 10, 7))
}

// P19.4: whoever of several spent a coin, each one that names it paid; it counts once, however many inputs name it.
func TestEffectsNamed(t *testing.T) {
	one, two := pay(1, points(point(1), point(2), point(1), point(1))), pay(2, points(point(2), point(3), point(2)))
	p := holding(t, coin(point(1), 1, a, 1), coin(point(2), 20, a, 1), coin(point(3), 300, a, 1))
	k := rooted(one, two)
	u := apply(t, "Apply", p, k, 2)
	wantEffects(t, "named", u, k.Txs, 2, entry(one, 2, 0, 21), entry(two, 2, 0, 320))
	u = api.Undo{Spent: coins(coin(point(1), 1, a, 1), coin(point(2), 20, a, 1), coin(point(1), 4000, b, 5))}
	wantEffects(t, "two coins of one point", u, k.Txs, 2, entry(one, 2, 0, 4021), entry(two, 2, 0, 20))
}

// P19.4: values below 0 count as 0, sums above MaxMoney as that.
func TestEffectsEdges(t *testing.T) {
	const most = api.MaxMoney
	one := pay(1, points(point(1), point(2), point(3)))
	for _, x := range []struct {
		values []int64
		sum    int64
	}{
		{[]int64{-1}, 0},
		{[]int64{math.MinInt64}, 0},
		{[]int64{5, -3}, 5},
		{[]int64{-3, 5}, 5},
		{[]int64{-3, math.MinInt64, -4}, 0},
		{[]int64{most}, most},
		{[]int64{most, 0}, most},
		{[]int64{most, -1}, most},
		{[]int64{-1, most}, most},
		{[]int64{most - 1, 1}, most},
		{[]int64{most, 1}, most},
		{[]int64{1, most}, most},
		{[]int64{1 << 62, 1 << 62}, most},
		{[]int64{most, most, 2}, most},
		{[]int64{most, most, -5}, most},
		{[]int64{math.MinInt64, most, most}, most},
	} {
		var got, paid, same api.Undo
		for i, value := range x.values {
			got.Made = append(got.Made, coin(of(one, i), value, a, 1))
			paid.Spent = append(paid.Spent, coin(point(i+1), value, a, 1))
			same.Spent = append(same.Spent, coin(point(2), value, a, 1))
		}
		name := fmt.Sprint(x.values)
		wantEffects(t, name+" got", got, []api.Tx{one}, 2, entry(one, 2, x.sum, 0))
		wantEffects(t, name+" paid", paid, []api.Tx{one}, 2, entry(one, 2, 0, x.sum))
		wantEffects(t, name+" paid by one point", same, []api.Tx{one}, 2, entry(one, 2, 0, x.sum))
	}
}

// P19.4: a transaction that can't be written has no entry; the others have theirs.
func TestEffectsNotWritten(t *testing.T) {
	one, two := pay(1, points(point(1)), out(5, a)), pay(2, points(point(1)), out(6, a))
	bad := pay(3, points(point(1)), out(-1, a))
	long := pay(4, points(point(1)), out(1, sample(api.MaxScript+1)))
	many := pay(5, slices.Repeat(points(point(1)), 2001))
	none := api.Tx{Out: []api.Out{out(5, a)}}
	u := api.Undo{
		Made:  coins(made(one, 0, 1), made(two, 0, 1), coin(api.Point{}, 9, a, 1)),
		Spent: coins(coin(point(1), 7, a, 1)),
	}
	wantEffects(t, "not written", u, []api.Tx{bad, one, none, long, two, many}, 1, entry(one, 1, 5, 7), entry(two, 1, 6, 7))
}
