package votes_test

import (
	"fmt"
	"math"
	"math/rand"
	"slices"
	"testing"
	"time"

	"sporran/api"
	"sporran/votes"
)

// somePeers are numbers of each kind.
var somePeers = []int{0, 1, -1, 7, 8, 1000, math.MinInt, math.MaxInt, 1 << 32, 42}

func want(t *testing.T, name string, got, want api.Errno) {
	t.Helper()
	if got != want {
		t.Errorf("%s: %v, not %v", name, got, want)
	}
}

func wantSums(t *testing.T, name string, v *votes.Votes, want ...api.Hash) {
	t.Helper()
	if got := v.Sums(); !slices.Equal(got, want) {
		t.Errorf("%s: Sums %.5x, not %.5x", name, got, want)
	}
}

func wantPeers(t *testing.T, name string, v *votes.Votes, sum api.Hash, want ...int) {
	t.Helper()
	if got := v.Peers(sum); !slices.Equal(got, want) {
		t.Errorf("%s: Peers of %x: %d, not %d", name, sum[:2], got, want)
	}
}

// P18.1: a new one has no votes, of whatever block.
func TestNew(t *testing.T) {
	for _, id := range []api.Hash{{}, {1}, {31: 255}} {
		v := votes.New(id)
		if v == nil {
			t.Fatal("none")
		}
		wantSums(t, "new", v)
		wantPeers(t, "new", v, api.Hash{})
		wantPeers(t, "new", v, id)
		for _, peer := range somePeers {
			if v.Has(peer) {
				t.Errorf("%d has voted", peer)
			}
			want(t, "Leave", v.Leave(peer), api.ErrPeer)
		}
	}
}

// The chapter's example.
func TestExample(t *testing.T) {
	v := votes.New(api.Hash{9})
	want(t, "1", v.Vote(1, api.Hash{5}), api.OK)
	want(t, "2", v.Vote(2, api.Hash{5}), api.OK)
	wantSums(t, "two votes of one sum", v, api.Hash{5})
	wantPeers(t, "two votes of one sum", v, api.Hash{5}, 1, 2)
}

// P18.1: who has voted does so no more: its vote stays as it is.
func TestVoteTwice(t *testing.T) {
	for _, peer := range somePeers {
		v := votes.New(api.Hash{})
		want(t, "Vote", v.Vote(peer, api.Hash{1}), api.OK)
		for _, sum := range []api.Hash{{1}, {2}, {}} {
			want(t, "once more", v.Vote(peer, sum), api.ErrPeer)
		}
		wantSums(t, "one vote", v, api.Hash{1})
		wantPeers(t, "one vote", v, api.Hash{1}, peer)
		wantPeers(t, "one vote", v, api.Hash{2})
		wantPeers(t, "one vote", v, api.Hash{})
		for _, other := range somePeers {
			if v.Has(other) != (other == peer) {
				t.Errorf("Has(%d), where %d has voted", other, peer)
			}
		}
	}
}

// P18.1: a peer's number does not tell its place, nor does a sum's.
func TestOrder(t *testing.T) {
	v := votes.New(api.Hash{})
	for i, peer := range somePeers {
		want(t, "Vote", v.Vote(peer, api.Hash{byte(200 - i%3)}), api.OK)
	}
	wantSums(t, "as they came", v, api.Hash{200}, api.Hash{199}, api.Hash{198})
	wantPeers(t, "as they came", v, api.Hash{200}, 0, 7, math.MinInt, 42)
	wantPeers(t, "as they came", v, api.Hash{199}, 1, 8, math.MaxInt)
	wantPeers(t, "as they came", v, api.Hash{198}, -1, 1000, 1<<32)
	wantPeers(t, "nobody's", v, api.Hash{197})
}

// P18.1: sums that are unlike in one byte, wherever it is, are two.
func TestSumsUnlike(t *testing.T) {
	v := votes.New(api.Hash{})
	sums := []api.Hash{{}}
	for i := range len(api.Hash{}) {
		sum := api.Hash{}
		sum[i] = 1
		sums = append(sums, sum)
	}
	for i, sum := range sums {
		want(t, "Vote", v.Vote(i, sum), api.OK)
		want(t, "Vote", v.Vote(100+i, sum), api.OK)
	}
	wantSums(t, "all unlike", v, sums...)
	for i, sum := range sums {
		wantPeers(t, "all unlike", v, sum, i, 100+i)
	}
}

// P18.1: a vote that is gone plays no part; who votes again is the last one.
func TestLeave(t *testing.T) {
	a, b := api.Hash{1}, api.Hash{2}
	v := votes.New(api.Hash{})
	for i, sum := range []api.Hash{a, b, a, b} {
		want(t, "Vote", v.Vote(i, sum), api.OK)
	}
	wantSums(t, "all", v, a, b)
	want(t, "Leave", v.Leave(0), api.OK)
	want(t, "again", v.Leave(0), api.ErrPeer)
	if v.Has(0) || !v.Has(1) || !v.Has(2) || !v.Has(3) {
		t.Error("another one has left")
	}
	wantSums(t, "b's first one is there before a's", v, b, a)
	wantPeers(t, "one left", v, a, 2)
	want(t, "Vote", v.Vote(0, b), api.OK)
	wantPeers(t, "back, and behind", v, b, 1, 3, 0)
	want(t, "Leave", v.Leave(2), api.OK)
	wantSums(t, "nobody says a", v, b)
	wantPeers(t, "nobody says a", v, a)
	want(t, "Vote", v.Vote(2, a), api.OK)
	want(t, "Leave", v.Leave(1), api.OK)
	want(t, "Leave", v.Leave(3), api.OK)
	wantSums(t, "0 ahead of 2", v, b, a)
	want(t, "Leave", v.Leave(0), api.OK)
	want(t, "Vote", v.Vote(0, b), api.OK)
	wantSums(t, "2 ahead of 0", v, a, b)
	want(t, "Leave", v.Leave(0), api.OK)
	want(t, "Leave", v.Leave(2), api.OK)
	want(t, "none is left", v.Leave(2), api.ErrPeer)
	wantSums(t, "none", v)
}

// said is a vote of the plain list that votes are held against.
type said struct {
	peer int
	sum  api.Hash
}

// P18.1: random calls.
func TestRandom(t *testing.T) {
	r := rand.New(rand.NewSource(18))
	for range 200 {
		v := votes.New(api.Hash{})
		var l []said
		for range 60 {
			peer, sum := r.Intn(9), api.Hash{byte(r.Intn(4))}
			at := slices.IndexFunc(l, func(x said) bool { return x.peer == peer })
			wanted := api.OK
			if r.Intn(3) > 0 {
				if at >= 0 {
					wanted = api.ErrPeer
				} else {
					l = append(l, said{peer, sum})
				}
				want(t, "Vote", v.Vote(peer, sum), wanted)
			} else {
				if at < 0 {
					wanted = api.ErrPeer
				} else {
					l = slices.Delete(l, at, at+1)
				}
				want(t, "Leave", v.Leave(peer), wanted)
			}
			wantPlain(t, v, l)
		}
	}
}

func wantPlain(t *testing.T, v *votes.Votes, l []said) {
	t.Helper()
	var sums []api.Hash
	peers := map[api.Hash][]int{}
	has := map[int]bool{}
	for _, x := range l {
		if !slices.Contains(sums, x.sum) {
			sums = append(sums, x.sum)
		}
		peers[x.sum] = append(peers[x.sum], x.peer)
		has[x.peer] = true
	}
	wantSums(t, "random", v, sums...)
	for i := range byte(5) {
		wantPeers(t, "random", v, api.Hash{i}, peers[api.Hash{i}]...)
	}
	for peer := -1; peer < 10; peer++ {
		if v.Has(peer) != has[peer] {
			t.Errorf("Has(%d): %v", peer, v.Has(peer))
		}
	}
}

// One that no call made answers ErrNil and noughts.
func TestNoVotes(t *testing.T) {
	var none *votes.Votes
	for name, v := range map[string]*votes.Votes{"nil": none, "plain": {}} {
		for _, peer := range somePeers {
			want(t, name+" Vote", v.Vote(peer, api.Hash{1}), api.ErrNil)
			want(t, name+" Leave", v.Leave(peer), api.ErrNil)
			if v.Has(peer) {
				t.Errorf("%s: Has(%d)", name, peer)
			}
		}
		wantSums(t, name, v)
		wantPeers(t, name, v, api.Hash{1})
		wantPeers(t, name, v, api.Hash{})
	}
}

// A copy of its value is the same one; two of one block are not.
func TestValueCopy(t *testing.T) {
	v, other := votes.New(api.Hash{1}), votes.New(api.Hash{1})
	w := *v
	want(t, "Vote", v.Vote(1, api.Hash{1}), api.OK)
	want(t, "Vote", w.Vote(2, api.Hash{2}), api.OK)
	want(t, "Leave", w.Leave(1), api.OK)
	want(t, "Vote", v.Vote(1, api.Hash{2}), api.OK)
	wantPeers(t, "the votes", v, api.Hash{2}, 2, 1)
	wantPeers(t, "the copy", &w, api.Hash{2}, 2, 1)
	wantSums(t, "another one", other)
	want(t, "another one", other.Vote(2, api.Hash{7}), api.OK)
	wantSums(t, "the votes", v, api.Hash{2})
}

// Answers are new memory, spare room included.
func TestAnswersNew(t *testing.T) {
	for n := range 40 {
		v := votes.New(api.Hash{})
		var sums []api.Hash
		var all []int
		for i := range n {
			sums, all = append(sums, api.Hash{byte(i)}), append(all, i+100)
			want(t, "Vote", v.Vote(i, api.Hash{byte(i)}), api.OK)
			want(t, "Vote", v.Vote(i+100, api.Hash{200}), api.OK)
		}
		if n > 0 {
			sums = slices.Insert(sums, 1, api.Hash{200})
		}
		one, peers := v.Sums(), v.Peers(api.Hash{200})
		clear(one[:cap(one)])
		clear(peers[:cap(peers)])
		name := fmt.Sprint(n, " votes")
		wantSums(t, name, v, sums...)
		wantPeers(t, name, v, api.Hash{200}, all...)
		one, peers = v.Sums(), v.Peers(api.Hash{200})
		old, older := slices.Clone(one[:cap(one)]), slices.Clone(peers[:cap(peers)])
		want(t, "Vote", v.Vote(-1, api.Hash{255}), api.OK)
		want(t, "Vote", v.Vote(-2, api.Hash{200}), api.OK)
		v.Sums()
		v.Peers(api.Hash{200})
		if !slices.Equal(one[:cap(one)], old) || !slices.Equal(peers[:cap(peers)], older) {
			t.Errorf("%s: later calls write into an answer", name)
		}
	}
}

// Many votes end soon.
func TestMany(t *testing.T) {
	const n = 1 << 17
	begin := time.Now()
	v := votes.New(api.Hash{})
	for i := range n {
		want(t, "Vote", v.Vote(-i, api.Hash{byte(i), byte(i >> 8), byte(i >> 16)}), api.OK)
	}
	for i := range n / 2 {
		want(t, "Leave", v.Leave(-i), api.OK)
	}
	if l := v.Sums(); len(l) != n/2 || l[0] != (api.Hash{0, 0, 1}) {
		t.Error(len(l))
	}
	wantPeers(t, "one of many", v, api.Hash{1, 0, 1}, -n/2-1)
	if took := time.Since(begin); took > 20*time.Second {
		t.Error(took)
	}
}
