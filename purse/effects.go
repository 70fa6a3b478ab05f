package purse

import (
	"sporran/api"
	"sporran/tx"
)

// Effects is what the transactions of a block did to the balance, each one that did something.
func Effects(u api.Undo, b api.Block, height int) []api.Entry {
	got := map[api.Hash]int64{}
	for _, c := range u.Made {
		got[c.Point.ID] = add(got[c.Point.ID], c.Out.Value)
	}
	paid := map[api.Point]int64{}
	for _, c := range u.Spent {
		paid[c.Point] = add(paid[c.Point], c.Out.Value)
	}
	var entries []api.Entry
	for _, t := range b.Txs {
		id, e := tx.ID(t)
		if e != api.OK {
			continue
		}
		in, earns := got[id]
		out, pays := sumOf(t, paid)
		if earns || pays {
			entries = append(entries, api.Entry{ID: id, Height: height, Got: in, Paid: out})
		}
	}
	return entries
}

// sumOf is what a transaction's inputs name, each point once; false, if they name none.
func sumOf(t api.Tx, paid map[api.Point]int64) (int64, bool) {
	var sum int64
	named := map[api.Point]struct{}{}
	for _, in := range t.In {
		value, ok := paid[in.Prev]
		if _, twice := named[in.Prev]; !ok || twice {
			continue
		}
		named[in.Prev] = struct{}{}
		sum = add(sum, value)
	}
	return sum, len(named) > 0
}

// add is the sum of two values; api.MaxMoney, if it were above that. One below nought, which no coin of a purse has, adds nothing.
func add(sum, value int64) int64 {
	value = max(value, 0)
	if value > api.MaxMoney-sum {
		return api.MaxMoney
	}
	return sum + value
}
