package votes_test

import (
	"bytes"
	"encoding/binary"
	"fmt"
	"math/rand"
	"slices"
	"testing"
	"time"

	"sporran/api"
	"sporran/filter"
	"sporran/header"
	"sporran/votes"
)

// paying is a block whose transactions pay scripts.
func paying(nonce uint32, txs ...[]string) api.Block {
	b := api.Block{Header: api.Header{Version: 1, Nonce: nonce}}
	for _, scripts := range txs {
		x := api.Tx{In: []api.In{{Script: []byte("in")}}}
		for _, s := range scripts {
			x.Out = append(x.Out, api.Out{Value: 1, Script: []byte(s)})
		}
		b.Txs = append(b.Txs, x)
	}
	return b
}

// built is a filter of items under a block's ID.
func built(t *testing.T, b api.Block, items ...string) []byte {
	t.Helper()
	var l [][]byte
	for _, item := range items {
		l = append(l, []byte(item))
	}
	f, e := filter.Build(header.ID(b.Header), l)
	if e != api.OK {
		t.Fatal(e)
	}
	return f
}

// sample is n texts from the first one on, each unlike all others.
func sample(first, n int) []string {
	l := make([]string, n)
	for i := range l {
		l[i] = string(binary.BigEndian.AppendUint32([]byte{0x76}, uint32(first+i)))
	}
	return l
}

func wantLies(t *testing.T, name string, b api.Block, f []byte, sum api.Hash, want bool) {
	t.Helper()
	if got := votes.Lies(b, f, sum); got != want {
		t.Errorf("%s: lies %v", name, got)
	}
}

// wantLie asks of a filter with its own sum.
func wantLie(t *testing.T, name string, b api.Block, f []byte, want bool) {
	t.Helper()
	wantLies(t, name, b, f, filter.Sum(f), want)
}

// P18.2, P18.3: filters of what blocks pay and spend are no lies.
func TestTrue(t *testing.T) {
	for _, txs := range [][][]string{
		nil,
		{nil},
		{{"a"}},
		{{"a", "b"}, {"c"}},
		{{"a", "a"}, {"a", "b", "b"}},
		{{"", "a", ""}},
		{{"", "\x6a", "\x6adata"}},
		{{"\x6adata", "a"}, {"a\x6a"}},
		{sample(0, 100), sample(50, 100)},
	} {
		b := paying(3, txs...)
		for _, spent := range [][]string{nil, {"x"}, {"", "x", "x"}, {"a"}, {"\x6a"}, {"\x6a0"}, {"\x6a0", "\x6a1", "\x6a2"}, sample(0, 300), sample(1000, 200)} {
			var scripts [][]byte
			for _, s := range spent {
				scripts = append(scripts, []byte(s))
			}
			f, e := filter.Build(header.ID(b.Header), filter.Items(b, scripts))
			if e != api.OK {
				t.Fatal(e)
			}
			wantLie(t, fmt.Sprintf("%.20q, spends %.20q", txs, spent), b, f, false)
		}
	}
}

// P18.2: a sum that is not the filter's, in whichever bit.
func TestOtherSum(t *testing.T) {
	b := paying(1, []string{"a", "b"})
	f := built(t, b, "a", "b")
	sum := filter.Sum(f)
	wantLies(t, "its sum", b, f, sum, false)
	wantLies(t, "noughts", b, f, api.Hash{}, true)
	for i := range sum {
		for bit := range 8 {
			other := sum
			other[i] ^= 1 << bit
			wantLies(t, fmt.Sprint("byte ", i, " bit ", bit), b, f, other, true)
		}
	}
	wantLies(t, "another filter's", b, f, filter.Sum(built(t, b, "a")), true)
	wantLies(t, "chained", b, f, filter.Chain(sum, api.Hash{}), true)
	none := paying(1)
	wantLies(t, "no items", none, []byte{0}, filter.Sum([]byte{0}), false)
	wantLies(t, "no items, another sum", none, []byte{0}, filter.Sum(nil), true)
}

// P18.2: bytes that are no filter, whatever the block has.
func TestNoFilter(t *testing.T) {
	full := paying(1, []string{"a", "b"})
	f := built(t, full, "a", "b")
	for _, none := range [][]byte{
		nil, {}, {1}, {0, 0}, {0, 1}, {0xfd}, {0xfd, 0, 0}, {2, 0, 0, 0}, f[:len(f)-1], append(slices.Clone(f), 0),
		{0xff, 0xff, 0xff, 0xff, 0xff, 0xff, 0xff, 0xff, 0xff}, {0xfe, 0x21, 0x4e, 0, 0}, bytes.Repeat([]byte{0xff}, 1000),
	} {
		for _, b := range []api.Block{{}, paying(1), paying(1, []string{"", "\x6a"}), full} {
			if _, e := filter.Values(none); e != api.ErrFilter {
				t.Fatalf("%x is a filter", none)
			}
			wantLie(t, fmt.Sprintf("%.20x", none), b, none, true)
		}
	}
}

// P18.2: a filter without one of the items, whichever it is; others beside the items are no lie.
func TestItemLacks(t *testing.T) {
	for _, n := range []int{1, 2, 3, 4, 5, 8, 13, 31} {
		items := sample(0, n)
		b := paying(uint32(n), items[:n/2], items[n/2:])
		for _, others := range []int{0, 1, 2, n - 1, n, 100} {
			more := sample(5000, others)
			wantLie(t, fmt.Sprint(n, " items, and ", others), b, built(t, b, slices.Concat(items, more)...), false)
			for i := range items {
				left := slices.Delete(slices.Clone(items), i, i+1)
				wantLie(t, fmt.Sprint(n, " items without number ", i, ", and ", others), b, built(t, b, slices.Concat(left, more)...), true)
			}
			wantLie(t, fmt.Sprint("none of ", n, " items, but ", others), b, built(t, b, more...), true)
		}
	}
}

// P18.2: items may be any texts, such as numbers one behind the other.
func TestNumbers(t *testing.T) {
	for n := 2; n < 30; n++ {
		var items []string
		for i := range n {
			items = append(items, fmt.Sprint(i))
		}
		b := paying(1, append(items, "x"))
		for _, others := range []int{1, 2, n, 40} {
			in := append(items, sample(0, others)...)
			wantLie(t, fmt.Sprint("x is not in it, ", n, " and ", others), b, built(t, b, in...), true)
			wantLie(t, fmt.Sprint("x is in it, ", n, " and ", others), b, built(t, b, append(in, "x")...), false)
		}
	}
}

// P18.2: items are those of the outputs: empty ones and data are none, what stands elsewhere is none.
func TestItems(t *testing.T) {
	b := paying(1, []string{"", "\x6a", "\x6aa"})
	b.Txs[0].In[0].Script = []byte("script")
	b.Txs[0].In[0].Witness = [][]byte{[]byte("witness")}
	wantLie(t, "no items", b, []byte{0}, false)
	wantLie(t, "others", b, built(t, b, "x"), false)
	b.Txs[0].Out = append(b.Txs[0].Out, api.Out{Value: -1, Script: []byte("\x6b")})
	wantLie(t, "one item", b, []byte{0}, true)
	wantLie(t, "one item, data in the filter", b, built(t, b, "\x6a", "\x6aa"), true)
	wantLie(t, "one item in the filter", b, built(t, b, "\x6b"), false)
	b.Txs = append(b.Txs, api.Tx{}, api.Tx{Out: []api.Out{{Script: []byte("late")}}})
	wantLie(t, "of a later transaction", b, built(t, b, "\x6b"), true)
	wantLie(t, "of a later transaction, in the filter", b, built(t, b, "late", "\x6b"), false)
}

// P18.2: a filter is under the ID of the block's header, all of it.
func TestID(t *testing.T) {
	b := paying(7, []string{"a", "b", "c"})
	f := built(t, b, "a", "b", "c")
	wantLie(t, "its own", b, f, false)
	for name, change := range map[string]func(*api.Header){
		"Version": func(h *api.Header) { h.Version++ },
		"Prev":    func(h *api.Header) { h.Prev[31]++ },
		"Merkle":  func(h *api.Header) { h.Merkle[31]++ },
		"Time":    func(h *api.Header) { h.Time++ },
		"Bits":    func(h *api.Header) { h.Bits++ },
		"Nonce":   func(h *api.Header) { h.Nonce++ },
	} {
		other := b
		change(&other.Header)
		wantLie(t, name, other, f, true)
		wantLie(t, name, other, built(t, other, "a", "b", "c"), false)
	}
}

// P18.2: two items with one number match a filter of one value.
func TestOneNumber(t *testing.T) {
	b := paying(1)
	seen := map[string]string{}
	for _, s := range sample(0, 20000) {
		f := built(t, b, s)
		twin, ok := seen[string(f)]
		if !ok {
			seen[string(f)] = s
			continue
		}
		b.Txs = paying(1, []string{s, twin}).Txs
		wantLie(t, "two items, one number", b, f, false)
		b.Txs = paying(1, []string{twin}, []string{s}, []string{"another one"}).Txs
		wantLie(t, "and a third one", b, f, true)
		return
	}
	t.Error("all numbers are unlike")
}

// liesPlainly asks of each item alone.
func liesPlainly(b api.Block, f []byte, sum api.Hash) bool {
	if filter.Sum(f) != sum {
		return true
	}
	for _, item := range filter.Items(b, nil) {
		ok, e := filter.Match(header.ID(b.Header), f, [][]byte{item})
		if e != api.OK || !ok {
			return true
		}
	}
	_, e := filter.Values(f)
	return e != api.OK
}

// P18.2: random filters, held against the plain words; few values and many items, and back.
func TestLiesRandom(t *testing.T) {
	r := rand.New(rand.NewSource(9))
	count := map[bool]int{}
	for range 1500 {
		items := sample(0, r.Intn(12))
		b := paying(r.Uint32(), items)
		in := slices.Concat(items, sample(100, r.Intn(12)))
		r.Shuffle(len(in), func(i, j int) { in[i], in[j] = in[j], in[i] })
		if r.Intn(2) == 0 {
			in = in[:r.Intn(len(in)+1)]
		}
		f := built(t, b, in...)
		sum := filter.Sum(f)
		if r.Intn(8) == 0 {
			f[r.Intn(len(f))] ^= 1 << r.Intn(8)
			sum = filter.Sum(f)
		}
		lies := liesPlainly(b, f, sum)
		count[lies]++
		wantLies(t, fmt.Sprintf("%d items, %x", len(items), f), b, f, sum, lies)
	}
	if count[true] < 200 || count[false] < 200 {
		t.Error(count)
	}
}

// P18.2: under this block's ID, two fillings of 998 have a number in common; that is no lie.
func TestFillingsAlike(t *testing.T) {
	b := api.Block{Header: api.Header{Nonce: 596}, Txs: []api.Tx{{Out: []api.Out{{Script: []byte{0x51}}, {Script: []byte{0x52}}}}}}
	items := []string{"\x51", "\x52"}
	wantLie(t, "both items", b, built(t, b, append(items, sample(0, 998)...)...), false)
	wantLie(t, "one item", b, built(t, b, append(items[:1:1], sample(0, 999)...)...), true)
	wantLie(t, "the other item", b, built(t, b, append(items[1:], sample(0, 999)...)...), true)
}

// What is handed in is not changed, the room behind its end included.
func TestLiesArguments(t *testing.T) {
	b := paying(1, []string{"a", "b", "c"}, []string{"d"})
	outs := append(b.Txs[0].Out, api.Out{Script: []byte("room")})
	b.Txs[0].Out = outs[:3]
	room := append(built(t, b, "a", "b", "c", "d", "e", "f"), "room"...)
	old := slices.Clone(room)
	f := room[:len(room)-4]
	wantLie(t, "true", b, f, false)
	wantLies(t, "another sum", b, f, api.Hash{}, true)
	b.Txs[1].Out[0].Script = []byte("x")
	wantLie(t, "a lie", b, f, true)
	if !bytes.Equal(room, old) || string(outs[0].Script) != "a" || string(outs[2].Script) != "c" || string(outs[3].Script) != "room" {
		t.Error("what was handed in is another one")
	}
}

// Great blocks and filters end soon, whichever item is lacking.
func TestLiesGreat(t *testing.T) {
	begin := time.Now()
	items := sample(0, 15000)
	b := paying(1, items[:5000], items[5000:])
	wantLie(t, "just the items", b, built(t, b, items...), false)
	wantLie(t, "and others", b, built(t, b, append(items, sample(50000, 5000)...)...), false)
	for _, i := range []int{0, 1, 7499, 7500, 14999} {
		left := slices.Delete(slices.Clone(items), i, i+1)
		wantLie(t, fmt.Sprint("without number ", i), b, built(t, b, append(left, sample(50000, 5000)...)...), true)
	}
	wantLie(t, "none of them", b, built(t, b, sample(50000, api.MaxCount)...), true)
	wantLie(t, "a filter of one", b, built(t, b, items[0]), true)
	wantLie(t, "a filter of none", b, []byte{0}, true)
	greater := paying(1, sample(0, 50000))
	wantLie(t, "more items than a filter has", greater, built(t, greater, sample(0, api.MaxCount)...), true)
	few := paying(1, items[:10])
	wantLie(t, "few of many", few, built(t, few, sample(0, api.MaxCount)...), false)
	if took := time.Since(begin); took > 30*time.Second {
		t.Error(took)
	}
}
