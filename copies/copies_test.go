package copies_test

import (
	"fmt"
	"reflect"
	"testing"

	"sporran/api"
	"sporran/copies"
)

func whole() api.Block {
	return api.Block{
		Header: api.Header{Version: 1, Prev: api.Hash{2}, Merkle: api.Hash{3}, Time: 4, Bits: 5, Nonce: 6},
		Txs: []api.Tx{
			{
				Version: 7,
				In: []api.In{
					{Prev: api.Point{ID: api.Hash{8}, Index: 9}, Script: []byte{10}, Sequence: 11, Witness: [][]byte{{12}, {13, 14}}},
					{Script: []byte{15}},
				},
				Out:  []api.Out{{Value: 16, Script: []byte{17}}, {Value: 18, Script: []byte{19, 20}}},
				Lock: 21,
			},
			{Version: 22},
		},
	}
}

func TestBlock(t *testing.T) {
	for _, b := range []api.Block{whole(), {}, {Txs: []api.Tx{{}}}, {Txs: []api.Tx{{In: make([]api.In, 1), Out: make([]api.Out, 2)}}}} {
		if got := copies.Block(b); !reflect.DeepEqual(got, b) {
			t.Errorf("%v, not %v", got, b)
		}
	}
}

// Whatever is changed in one of two copies, the other one and the block are as they were.
func TestBlockShares(t *testing.T) {
	want := fmt.Sprint(whole())
	for i, spoil := range []func(*api.Block){
		func(b *api.Block) { b.Txs[1] = api.Tx{} },
		func(b *api.Block) { b.Txs[0].In[1] = api.In{} },
		func(b *api.Block) { b.Txs[0].In[0].Script[0]++ },
		func(b *api.Block) { b.Txs[0].In[0].Witness[1] = nil },
		func(b *api.Block) { b.Txs[0].In[0].Witness[1][1]++ },
		func(b *api.Block) { b.Txs[0].Out[1] = api.Out{} },
		func(b *api.Block) { b.Txs[0].Out[1].Script[0]++ },
		func(b *api.Block) { _ = append(b.Txs[:1], api.Tx{}) },
		func(b *api.Block) { _ = append(b.Txs[0].Out[0].Script, 1) },
	} {
		b := whole()
		one, other := copies.Block(b), copies.Block(b)
		spoil(&one)
		if fmt.Sprint(b) != want || fmt.Sprint(other) != want {
			t.Error(i, "shared")
		}
		b = whole()
		one = copies.Block(b)
		spoil(&b)
		if fmt.Sprint(one) != want {
			t.Error(i, "kept")
		}
	}
}
