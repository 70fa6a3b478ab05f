package client_test

import (
	"fmt"
	"math/rand"
	"slices"
	"testing"

	"sporran/api"
	"sporran/filter"
	"sporran/model"
)

// The promises of the whole, in worlds of which peer 0 is honest, and ready as long as anybody else is there.

// world is a rig in which peers tell of random blocks, all but 0 untruly at times.
type world struct {
	*rig
	rand   *rand.Rand
	blocks []api.Block
	models []*model.Model // what is known early, and late
	bias   map[int]int
	bodies []api.Block // that came
}

func newWorld(t *testing.T, seed int64) *world {
	r := rand.New(rand.NewSource(seed))
	w := &world{rand: r, blocks: forest(r, 12), bias: map[int]int{}}
	w.rig = &rig{t: t, p: chainOf(w.blocks[0])}
	for _, n := range []int{3 + r.Intn(6), len(w.blocks)} {
		m, e := model.New(w.p, w.blocks[1:n])
		want(t, "model", e, api.OK)
		w.models = append(w.models, m)
	}
	w.m = w.models[0]
	w.tape = mustTape(t, nil)
	w.begin()
	return w
}

// begin opens the client; peer 0 comes.
func (w *world) begin() {
	w.t.Helper()
	w.open()
	clear(w.bias)
	w.connect(0)
	w.honest(0) // so that it is ready ahead of all others
}

// honest has a peer answer all that it was asked as its model does.
func (w *world) honest(n int) {
	w.t.Helper()
	for len(w.asked[n]) > 0 {
		m := w.asked[n][0]
		if m.Kind == api.MsgVerack {
			w.asked[n] = w.asked[n][1:]
			continue
		}
		w.tell(n, w.answer(m)...)
	}
}

// answer is what is true: of blocks that are known late, too, once others have told of them.
func (w *world) answer(m api.Message) []api.Message {
	if l := w.m.Answer(m); len(l) > 0 && l[0].Kind != api.MsgNotFound {
		return l
	}
	return w.models[1].Answer(m)
}

func (w *world) tell(n int, l ...api.Message) {
	w.t.Helper()
	for _, m := range l {
		if m.Kind == api.MsgBlock {
			w.bodies = append(w.bodies, m.Block)
		}
	}
	left := w.asked[n][1:]
	if slices.Contains(w.c.Peers(), n) {
		w.say(n, l...)
		w.asked[n] = append(left, w.asked[n]...)
	}
}

// lies has a peer answer what it was asked first, truly or not.
func (w *world) lies(n int) {
	w.t.Helper()
	m := w.asked[n][0]
	l := w.answer(m)
	odd := w.rand.Intn(10) == 0
	switch {
	case m.Kind == api.MsgVerack:
		l = nil
	case m.Kind == api.MsgGetSums:
		l = []api.Message{{Kind: api.MsgSums, Stop: m.Stop, Hashes: []api.Hash{filter.Sum(filterBy(w.models[1], m.Stop, w.bias[n]))}}}
	case m.Kind == api.MsgGetFilter:
		l = []api.Message{filterSaid(m.Stop, filterBy(w.models[1], m.Stop, w.bias[n]))}
	case m.Kind == api.MsgGetData && odd:
		b, _ := w.models[1].Block(m.Hashes[0])
		b.Txs = b.Txs[:len(b.Txs)-1]
		l = []api.Message{bodyTold(b)}
	case m.Kind == api.MsgGetData && w.rand.Intn(10) == 0:
		l = []api.Message{{Kind: api.MsgNotFound, Hashes: m.Hashes}}
	case m.Kind == api.MsgGetHeaders && odd:
		l = []api.Message{headersTold(w.blocks[w.rand.Intn(len(w.blocks))], w.blocks[w.rand.Intn(len(w.blocks))])}
	}
	w.tell(n, l...)
}

func filterSaid(h api.Hash, f []byte) api.Message {
	return api.Message{Kind: api.MsgFilter, Stop: h, Bytes: f}
}

// step is one random thing.
func (w *world) step() {
	w.t.Helper()
	n := 1 + w.rand.Intn(4)
	here := slices.Contains(w.c.Peers(), n)
	switch k := w.rand.Intn(100); {
	case k < 10 && !here:
		w.bias[n] = w.rand.Intn(6)
		w.connect(n)
	case k < 11 && here:
		w.gone(n)
	case k < 15:
		w.tick(1 + w.rand.Intn(5))
		w.honest(0)
	case k < 17:
		w.watch(script(w.rand.Intn(5)))
	case k < 18:
		w.m = w.models[1]
	case k < 19:
		w.tape.Fuse(w.rand.Intn(8))
		w.crash()
	case k < 40:
		if len(w.asked[0]) > 0 {
			w.tell(0, w.answer(w.asked[0][0])...)
		}
	case here && len(w.asked[n]) > 0:
		w.lies(n)
	}
}

// crash has the tape stop while peer 0 answers; then all begins anew.
func (w *world) crash() {
	w.t.Helper()
	scripts := w.c.Watched()
	for range 3 {
		if _, e := w.c.Watch(script(w.rand.Intn(5))); e == api.OK {
			scripts = w.c.Watched()
		}
	}
	w.tape.Crash(w.rand.Intn(400))
	w.begin()
	if got := w.c.Watched(); len(got) < len(scripts) || fmt.Sprint(got[:len(scripts)]) != fmt.Sprint(scripts) {
		w.t.Error("a script that was answered OK is not watched")
	}
}

// holds asks for P1 and P2.
func (w *world) holds() {
	w.t.Helper()
	s := w.c.Status()
	truth := w.models[1].Coins(s.Cursor, w.c.Watched())
	if fmt.Sprint(w.c.Coins()) != fmt.Sprint(truth) {
		w.t.Fatalf("at %d coins %v, not %v", s.Height, w.c.Coins(), truth)
	}
	var sum int64
	for _, c := range truth {
		sum += c.Out.Value
	}
	if s.Balance != sum || s.Overflow {
		w.t.Fatal("balance", s.Balance, sum)
	}
	way := w.models[1].Path(s.Cursor)
	for _, c := range w.c.Coins() {
		if !slices.ContainsFunc(w.bodies, func(b api.Block) bool { return makes(b, c) && id(b) == id(way[c.Height]) }) {
			w.t.Fatal("a coin of no body")
		}
	}
	if got, want := w.c.History(), w.history(way); fmt.Sprint(got) != fmt.Sprint(want) {
		w.t.Fatalf("history %v, not %v", got, want)
	}
}

func makes(b api.Block, c api.Coin) bool {
	return slices.ContainsFunc(b.Txs, func(x api.Tx) bool {
		return txID(x) == c.Point.ID && fmt.Sprint(x.Out[c.Point.Index]) == fmt.Sprint(c.Out)
	})
}

// history is that of a way, reckoned by its coins: what a block's transactions got and paid is what its coins changed by, in all.
func (w *world) history(way []api.Block) []api.Entry {
	var l []api.Entry
	c := plain{scripts: w.c.Watched(), dids: map[api.Hash]plainDid{}}
	for h := 1; h < len(way); h++ {
		c.body, c.next, c.height = &way[h], id(way[h]), h
		c.apply()
		l = append(l, c.dids[c.next].entries...)
	}
	return l
}

// P1, P2, P3, and P4 at the end.
func TestPromises(t *testing.T) {
	went := 0
	for seed := range int64(150) {
		w := newWorld(t, seed)
		w.holds()
		for range 120 {
			before := len(w.c.Peers())
			w.step()
			w.holds()
			went += max(before-len(w.c.Peers()), 0)
		}
		w.m = w.models[1]
		for _, n := range w.c.Peers()[1:] {
			w.gone(n)
		}
		for range 3 {
			w.honest(0)
			w.tick(10)
		}
		w.honest(0)
		w.holds()
		if s := w.c.Status(); s.State != api.StateSynced || s.Height+1 != len(w.m.Path(w.m.Best())) { // of several with as much work the one that came first
			t.Fatal("not synced", s)
		}
	}
	if went < 50 {
		t.Error("too few peers went", went)
	}
}

// P4: behind enough rounds of honest peers, who answer in whatever order, the client is synced.
func TestInTheEnd(t *testing.T) {
	for seed := range int64(60) {
		r := rand.New(rand.NewSource(seed))
		blocks := forest(r, 14)
		w := &rig{t: t, p: chainOf(blocks[0])}
		w.m, _ = model.New(w.p, blocks[1:])
		w.tape = mustTape(t, nil)
		w.open()
		for n := range r.Intn(4) {
			w.watch(script(n))
		}
		for n := range 1 + r.Intn(8) {
			w.connect(n)
		}
		for range 40 {
			peers := w.c.Peers()
			r.Shuffle(len(peers), func(i, j int) { peers[i], peers[j] = peers[j], peers[i] })
			for _, n := range peers {
				for range len(w.asked[n]) {
					m := w.asked[n][0]
					left := w.asked[n][1:]
					if l := w.m.Answer(m); len(l) > 0 {
						w.say(n, l...)
						left = append(left, w.asked[n]...)
					}
					w.asked[n] = left
				}
			}
			w.tick(1)
		}
		if s := w.c.Status(); s.State != api.StateSynced && s.State != api.StateHeaders || s.Cursor != w.m.Best() {
			t.Error("not at the end", s)
		}
	}
}

// P5: two clients that watch unlike scripts, of which no filter has one, send the same.
func TestBlind(t *testing.T) {
	r := rand.New(rand.NewSource(7))
	blocks := forest(r, 14)
	var all []string
	for n := range 3 {
		w := &rig{t: t, p: chainOf(blocks[0])}
		w.m, _ = model.New(w.p, blocks[1:])
		w.tape = mustTape(t, nil)
		w.open()
		for i := range 1 + 3*n {
			w.watch(script(1000*n + 500 + i))
		}
		sent := ""
		for p := range 3 {
			sent += w.connect(p) + "\n"
		}
		for range 60 {
			for p := range 3 {
				for range len(w.asked[p]) {
					m := w.asked[p][0]
					left := w.asked[p][1:]
					if l := w.m.Answer(m); len(l) > 0 {
						sent += w.say(p, l...) + "\n"
						left = append(left, w.asked[p]...)
					}
					w.asked[p] = left
				}
			}
			sent += w.tick(1)
		}
		if w.c.Status().Cursor != w.m.Best() || len(w.c.Fetched()) > 0 {
			t.Error(w.c.Status(), len(w.c.Fetched()))
		}
		all = append(all, sent)
	}
	if all[0] != all[1] || all[1] != all[2] {
		t.Error("what is sent hangs on scripts")
	}
}
