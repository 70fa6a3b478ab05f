package world_test

import (
	"fmt"
	"slices"
	"testing"

	"sporran/api"
)

// The eight examples of the whole, and that of chapter 23.

func TestExampleNoBlocks(t *testing.T) {
	r := start(t)
	r.does(connect(0), settle(5))
	r.wantAt("synced", api.StateSynced, g)
}

func TestExampleNoScript(t *testing.T) {
	r := start(t, a1, a2, a3, a4)
	r.does(connect(0), connect(1), settle(9))
	r.wantAt("synced", api.StateSynced, a4)
	for n := range 2 {
		for _, m := range r.sent(n) {
			if m.Kind == api.MsgGetSums || m.Kind == api.MsgGetFilter || m.Kind == api.MsgGetData {
				t.Error(n, m.Kind)
			}
		}
	}
}

func TestExampleMatch(t *testing.T) {
	r := start(t, a1, a2, a4of(a2))
	r.does(watch(mineOne), connect(0), settle(15))
	r.wantAt("synced", api.StateSynced, a4of(a2), coin(payA2, 0, 2))
	same(t, "fetched", r.Client().Fetched(), []api.Hash{id(a2)})
	same(t, "history", r.Client().History(), []api.Entry{{ID: txID(payA2), Height: 2, Got: 5}})
}

func a4of(up api.Block) api.Block {
	return mine(id(up), 1040, pay(4, nil, foreign))
}

func TestExampleLie(t *testing.T) {
	for _, lie := range [][]byte{empty, {1, 0, 0}} {
		r := start(t, a1, a2)
		r.does(watch(mineOne))
		r.hello(0)
		r.serves(0, 2)
		r.hello(1)
		r.serves(1, 1)
		r.does(inject(1, sumsTold(id(a1), lie)), serve(0)) // sums part: the block is fetched, of 0
		r.does(serve(0))
		same(t, "fetched", r.Client().Fetched(), []api.Hash{id(a1)})
		r.does(inject(1, filterTold(id(a1), lie)))
		same(t, "peers", r.Client().Peers(), []int{0})
		r.does(settle(9))
		r.wantAt("synced", api.StateSynced, a2, coin(payA2, 0, 2))
		same(t, "peers", r.Client().Peers(), []int{0})
	}
}

func TestExampleOtherWay(t *testing.T) {
	r := start(t, a1, a2, a3, b2, b3, b4, b5)
	r.does(watch(mineOne), watch(mineTwo), connect(1), serve(1), serve(1), lose(1))
	r.does(inject(1, headersTold(a1, a2, a3)), inject(1, headersTold())) // of the other way it tells later
	for range 12 {
		for r.Do(serve(1)) == api.OK {
		}
	}
	r.wantAt("on a3", api.StateSynced, a3, coin(payA3, 0, 3))
	r.does(settle(25))
	r.wantAt("on b5", api.StateSynced, b5, coin(payB3, 0, 3))
	same(t, "fetched", r.Client().Fetched(), []api.Hash{id(a2), id(a3), id(b3)})
	same(t, "history", r.Client().History(), []api.Entry{{ID: txID(payB3), Height: 3, Got: 5}})
}

func TestExampleWatchLater(t *testing.T) {
	r := start(t, a1, a2, a3)
	r.does(watch(mineTwo), connect(0), settle(15))
	r.wantAt("synced", api.StateSynced, a3, coin(payA3, 0, 3))
	r.does(watch(foreign))
	r.wantAt("anew", api.StateBlocks, g)
	r.does(settle(24))
	if s := r.Client().Status(); s.State != api.StateSynced || s.Height != 3 {
		t.Error(s)
	}
	same(t, "coins", r.Client().Coins(), r.m.Coins(id(a3), [][]byte{mineTwo, foreign}))
	if n := len(r.Client().Coins()); n != 4 { // of a1, of a2 one that a3 does not spend, of a3 both
		t.Error(n)
	}
	r.does(watch(mineTwo)) // it is watched already
	if s := r.Client().Status(); s.Height != 3 {
		t.Error(s)
	}
}

func TestExampleLate(t *testing.T) {
	r := start(t, a1)
	r.does(watch(mineOne))
	r.hello(0)
	r.does(tick(19))
	same(t, "peers", r.Client().Peers(), []int{0})
	r.does(tick(1))
	same(t, "peers", r.Client().Peers(), []int{})
	r.fails("no messages", serve(0), api.ErrArg)
}

func TestExampleCrash(t *testing.T) {
	r := start(t, a1, a2, a3)
	r.does(watch(mineOne), watch(mineTwo), connect(0))
	r.serves(0, 9) // a2's body
	r.wantAt("ahead", api.StateBlocks, a2, coin(payA2, 0, 2))
	r.serves(0, 2)
	ahead := len(r.Tape().Bytes())
	r.does(fuse(1)) // Append goes, Sync does not
	want(t, "a3's body", r.Do(serve(0)), api.ErrDead)
	loose := len(r.Tape().Bytes()) - ahead
	for keep := range loose + 2 {
		twin := r.Tape().Copy()
		twin.Crash(keep)
		w := start(t, a1, a2, a3)
		want(t, "append", w.Tape().Append(twin.Bytes()), api.OK)
		w.does(crash(1<<20), begin())
		if keep < loose {
			w.wantAt(fmt.Sprint(keep), api.StateHeaders, a2, coin(payA2, 0, 2))
		} else {
			w.wantAt(fmt.Sprint(keep), api.StateHeaders, a3, coin(payA3, 0, 3))
		}
		w.does(connect(0), settle(15))
		w.wantAt("in the end", api.StateSynced, a3, coin(payA3, 0, 3))
	}
}

func TestExampleFull(t *testing.T) {
	r := start(t, a1, a2)
	r.does(watch(mineOne), connect(0), limit(len(r.Tape().Bytes())), settle(9))
	r.wantAt("full", api.StateHalted, g)
	want(t, "halted", r.Do(tick(1)), api.ErrHalt)
	r.does(crash(0), limit(room), begin(), connect(0), settle(15))
	r.wantAt("in the end", api.StateSynced, a2, coin(payA2, 0, 2))
	if !slices.Equal(r.Client().Peers(), []int{0}) {
		t.Error(r.Client().Peers())
	}
}
