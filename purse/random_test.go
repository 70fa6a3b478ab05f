package purse_test

import (
	"bytes"
	"math/rand"
	"slices"
	"testing"

	"sporran/api"
	"sporran/block"
	"sporran/purse"
)

// plain is a purse as the chapter says it, without haste: coins stand in a list.
type plain struct {
	scripts [][]byte
	coins   []api.Coin
}

func (m *plain) at(p api.Point) int {
	return slices.IndexFunc(m.coins, func(c api.Coin) bool { return c.Point == p })
}

func (m *plain) watches(script []byte) bool {
	return slices.ContainsFunc(m.scripts, func(s []byte) bool { return bytes.Equal(s, script) })
}

func (m *plain) load(c api.Coin) {
	if i := m.at(c.Point); i >= 0 {
		m.coins[i] = c
	} else {
		m.coins = append(m.coins, c)
	}
}

func (m *plain) apply(k api.Block, height int) api.Undo {
	var u api.Undo
	for _, x := range k.Txs {
		for _, in := range x.In {
			if i := m.at(in.Prev); i >= 0 {
				u.Spent = append(u.Spent, m.coins[i])
				m.coins = slices.Delete(m.coins, i, i+1)
			}
		}
		for i, o := range x.Out {
			if m.watches(o.Script) && m.at(of(x, i)) < 0 {
				u.Made = append(u.Made, made(x, i, height))
				m.coins = append(m.coins, made(x, i, height))
			}
		}
	}
	return u
}

func (m *plain) back(u api.Undo) api.Errno {
	for _, c := range u.Spent {
		if c.Out.Value < 0 {
			return api.ErrArg
		}
	}
	for _, c := range u.Made {
		spent := slices.ContainsFunc(u.Spent, func(s api.Coin) bool { return s.Point == c.Point })
		if m.at(c.Point) < 0 && !spent {
			return api.ErrSpent
		}
	}
	for _, c := range u.Made {
		if i := m.at(c.Point); i >= 0 {
			m.coins = slices.Delete(m.coins, i, i+1)
		}
	}
	for _, c := range u.Spent {
		if !slices.ContainsFunc(u.Made, func(own api.Coin) bool { return sameCoin(own, c) }) {
			m.load(c)
		}
	}
	return api.OK
}

// effects is the chapter's words; sums are small.
func effects(u api.Undo, k api.Block, height int) []api.Entry {
	var l []api.Entry
	for _, x := range k.Txs {
		n := api.Entry{ID: idOf(x), Height: height}
		counts := false
		for _, c := range u.Made {
			if c.Point.ID == n.ID {
				counts = true
				n.Got += c.Out.Value
			}
		}
		for _, c := range u.Spent {
			if slices.ContainsFunc(x.In, func(in api.In) bool { return in.Prev == c.Point }) {
				counts = true
				n.Paid += c.Out.Value
			}
		}
		if counts {
			l = append(l, n)
		}
	}
	return l
}

// someTx spends what others made, or what nobody did.
func someTx(r *rand.Rand, others []api.Tx) api.Tx {
	x := pay(r.Intn(1000), nil)
	x.In = nil
	for range r.Intn(4) {
		if len(others) == 0 || r.Intn(8) == 0 {
			x.In = append(x.In, api.In{Prev: point(r.Intn(4))})
			continue
		}
		o := others[len(others)-1-r.Intn(min(len(others), 12))]
		x.In = append(x.In, api.In{Prev: of(o, r.Intn(max(len(o.Out), 1)))})
	}
	if len(x.In) == 0 {
		x.In = []api.In{{Prev: point(2000)}}
	}
	for range r.Intn(4) {
		x.Out = append(x.Out, out(int64(r.Intn(100)), [][]byte{a, b, c, alien, nil}[r.Intn(5)]))
	}
	return x
}

// someBlock has transactions, some of them once more, some of blocks ahead.
func someBlock(r *rand.Rand, others *[]api.Tx) api.Block {
	var txs []api.Tx
	for range 1 + r.Intn(6) {
		if len(*others) > 0 && r.Intn(6) == 0 {
			txs = append(txs, (*others)[len(*others)-1-r.Intn(min(len(*others), 8))])
			continue
		}
		x := someTx(r, *others)
		*others = append(*others, x)
		txs = append(txs, x)
	}
	return rooted(txs...)
}

func wantSame(t *testing.T, name string, p *purse.Purse, m *plain) {
	t.Helper()
	wantCoins(t, name, p, m.coins...)
	var sum int64
	for _, c := range m.coins {
		sum += c.Out.Value
	}
	wantBalance(t, name, p, sum, true)
}

// P19.2, P19.4, P19.5: random blocks, done and taken back, against a plain purse.
func TestRandom(t *testing.T) {
	r := rand.New(rand.NewSource(19))
	twice, spentOwn := 0, 0
	for range 150 {
		p, m := holding(t), &plain{scripts: [][]byte{a, b, c}}
		var txs []api.Tx
		var undos []api.Undo
		var states [][]api.Coin
		for height := range 25 {
			if r.Intn(5) == 0 {
				one := coin(point(r.Intn(4)), int64(r.Intn(100)), [][]byte{a, alien, nil}[r.Intn(3)], -1-r.Intn(3))
				want(t, "Load", p.Load(one), api.OK)
				m.load(one)
				undos, states = nil, nil
			}
			k := someBlock(r, &txs)
			before := slices.Clone(m.coins)
			u, e := p.Apply(k, height)
			if block.Check(k) != api.OK {
				want(t, "no block", e, api.ErrBlock)
				wantSame(t, "no block", p, m)
				continue
			}
			want(t, "Apply", e, api.OK)
			told := m.apply(k, height)
			wantUndo(t, "Apply", u, told.Made, told.Spent)
			wantSame(t, "Apply", p, m)
			if got := purse.Effects(u, k, height); !slices.Equal(got, effects(told, k, height)) {
				t.Errorf("Effects %v, not %v", got, effects(told, k, height))
			}
			want(t, "Back", p.Back(u), api.OK)
			wantCoins(t, "Back of Apply", p, before...)
			apply(t, "once more", p, k, height)
			wantSame(t, "once more", p, m)
			undos, states = append(undos, u), append(states, before)
			if len(u.Made) > 0 && len(u.Spent) > 0 {
				spentOwn++
			}
			if repeats(k) {
				twice++
			}
		}
		for i := len(undos) - 1; i >= 0; i-- {
			want(t, "Back", p.Back(undos[i]), api.OK)
			wantCoins(t, "one by one", p, states[i]...)
		}
	}
	if twice < 20 || spentOwn < 100 {
		t.Error("the random blocks are too plain", twice, spentOwn)
	}
}

// P19.2: random undoings, against a plain purse.
func TestRandomBack(t *testing.T) {
	r := rand.New(rand.NewSource(20))
	some := func(n int) []api.Coin {
		var l []api.Coin
		for range r.Intn(n) {
			value := int64(r.Intn(3))
			if r.Intn(40) == 0 {
				value = -1
			}
			l = append(l, coin(point(r.Intn(5)), value, [][]byte{a, alien, nil, {}}[r.Intn(4)], r.Intn(2)))
		}
		return l
	}
	seen := map[api.Errno]int{}
	for range 400 {
		p, m := holding(t), &plain{}
		for range 25 {
			for _, c := range some(3) {
				if c.Out.Value >= 0 {
					want(t, "Load", p.Load(c), api.OK)
					m.load(c)
				}
			}
			u := api.Undo{Made: some(5), Spent: some(5)}
			e := m.back(u)
			want(t, "Back", p.Back(u), e)
			wantSame(t, "Back", p, m)
			seen[e]++
		}
	}
	if seen[api.OK] < 500 || seen[api.ErrSpent] < 500 || seen[api.ErrArg] < 200 {
		t.Error("the random undoings are too much alike", seen)
	}
}

// repeats tells whether a block has a transaction twice.
func repeats(k api.Block) bool {
	ids := map[api.Hash]int{}
	for _, x := range k.Txs {
		ids[idOf(x)]++
	}
	return len(ids) < len(k.Txs)
}

// doubles tells whether two transactions of a block name one point.
func doubles(k api.Block) bool {
	by := map[api.Point]int{}
	for i, x := range k.Txs {
		for _, in := range x.In {
			if j, ok := by[in.Prev]; ok && j != i {
				return true
			}
			by[in.Prev] = i
		}
	}
	return false
}

// P19.6: the balance rises by what was got, and falls by what was paid.
func TestBalanceMoves(t *testing.T) {
	r := rand.New(rand.NewSource(21))
	checked := 0
	for range 200 {
		p := holding(t, coin(point(1), 1000, a, 0), coin(point(2), 70, alien, 0))
		var txs []api.Tx
		for height := range 20 {
			k := someBlock(r, &txs)
			if repeats(k) || doubles(k) || block.Check(k) != api.OK {
				continue
			}
			before, _ := p.Balance()
			u := apply(t, "Apply", p, k, height)
			for _, n := range purse.Effects(u, k, height) {
				before += n.Got - n.Paid
			}
			wantBalance(t, "moved", p, before, true)
			checked++
		}
	}
	if checked < 500 {
		t.Error("too few blocks", checked)
	}
}
