package audit_test

import (
	"bytes"
	"math/rand"
	"slices"
	"testing"

	"sporran/api"
	"sporran/audit"
	"sporran/block"
)

// plainOwn is what P24.3 says, gone through word by word.
func plainOwn(way []api.Header, all []api.Block, watched [][]byte, l []api.Coin) bool {
	return !slices.ContainsFunc(l, func(c api.Coin) bool {
		return !slices.ContainsFunc(watched, func(s []byte) bool { return bytes.Equal(s, c.Out.Script) }) || !plainMade(way, all, c)
	})
}

// plainHeight is that of a body that counts; -1 of one that does not.
func plainHeight(way []api.Header, b api.Block) int {
	if block.Check(b) != api.OK {
		return -1
	}
	return slices.IndexFunc(way, func(h api.Header) bool { return id(api.Block{Header: h}) == id(b) })
}

func plainMade(way []api.Header, all []api.Block, c api.Coin) bool {
	for _, b := range all {
		if h := plainHeight(way, b); h < 0 || h != c.Height {
			continue
		}
		last := -1
		for i, x := range b.Txs {
			if txID(x) == c.Point.ID && uint64(c.Point.Index) < uint64(len(x.Out)) {
				o := x.Out[c.Point.Index]
				if o.Value == c.Out.Value && bytes.Equal(o.Script, c.Out.Script) {
					last = i
				}
			}
		}
		if last >= 0 && !plainSpent(way, all, c, last) {
			return true
		}
	}
	return false
}

func plainSpent(way []api.Header, all []api.Block, c api.Coin, from int) bool {
	for _, b := range all {
		h := plainHeight(way, b)
		for i, x := range b.Txs {
			if h > c.Height || h == c.Height && h >= 0 && i >= from {
				for _, in := range x.In {
					if in.Prev == c.Point {
						return true
					}
				}
			}
		}
	}
	return false
}

// A few transactions, ways, bodies and coins of these, good and bad, as random as may be.
func TestOwnRandom(t *testing.T) {
	count := [2]int{}
	for seed := range int64(6000) {
		r := rand.New(rand.NewSource(seed))
		pool := randomTxs(r)
		var made []api.Block
		var prev api.Hash
		for range 2 + r.Intn(4) {
			var txs []api.Tx
			for range 1 + r.Intn(3) {
				txs = append(txs, pool[r.Intn(len(pool))])
			}
			b := body(prev, txs...)
			made = append(made, b)
			prev = id(b)
		}
		way := headers(made...)
		if r.Intn(4) == 0 {
			way = slices.Insert(way, r.Intn(len(way)+1), way[r.Intn(len(way))])
		}
		if r.Intn(4) == 0 {
			i := r.Intn(len(way))
			way = slices.Delete(way, i, i+1)
		}
		l := randomCoins(r, way, made)
		all := slices.Clone(made)
		for range r.Intn(3) {
			all[r.Intn(len(all))].Txs = all[r.Intn(len(all))].Txs
		}
		r.Shuffle(len(all), func(i, j int) { all[i], all[j] = all[j], all[i] })
		watched := scripts(1, 2, 3)[:r.Intn(2)+2]
		want := plainOwn(way, all, watched, l)
		if audit.Own(way, all, watched, l) != want {
			t.Fatal(seed, !want)
		}
		if want {
			count[1]++
		} else {
			count[0]++
		}
	}
	if count[0] < 1500 || count[1] < 1500 {
		t.Error("false, true:", count)
	}
}

func randomTxs(r *rand.Rand) []api.Tx {
	var pool []api.Tx
	for n := range 5 {
		var spent []api.Point
		for range r.Intn(3) {
			if len(pool) > 0 {
				spent = append(spent, at(pool[r.Intn(len(pool))], uint32(r.Intn(2))))
			}
		}
		pool = append(pool, pay(n, spent, byte(1+r.Intn(3)), byte(1+r.Intn(3))))
	}
	return pool
}

func randomCoins(r *rand.Rand, way []api.Header, made []api.Block) []api.Coin {
	var l []api.Coin
	for range 1 + r.Intn(2) {
		b := made[r.Intn(len(made))]
		x := b.Txs[r.Intn(len(b.Txs))]
		c := coin(x, uint32(r.Intn(2)), max(0, slices.Index(way, b.Header)))
		switch r.Intn(30) {
		case 0:
			c.Height += r.Intn(3) - 1
		case 1:
			c.Out.Value++
		case 2:
			c.Point.Index ^= 1
		}
		l = append(l, c)
	}
	return l
}
