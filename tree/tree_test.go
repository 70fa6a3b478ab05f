package tree_test

import (
	"encoding/hex"
	"fmt"
	"math"
	"math/big"
	"math/rand"
	"runtime"
	"slices"
	"testing"
	"time"

	"sporran/api"
	"sporran/header"
	"sporran/target"
	"sporran/tree"
	"sporran/wide"
)

const (
	easy     = 0x207fffff // half of all hashes meet it
	easiest  = 0x2100ffff // nearly all do
	always   = math.MaxUint32
	someTime = 1000000
)

// mine is a header that meets its bits, if they are a target: for tests one that is soon met.
func mine(h api.Header) api.Header {
	_, e := target.Expand(h.Bits)
	for e == api.OK && !target.Meets(header.ID(h), h.Bits) {
		h.Nonce++
	}
	return h
}

// spoil is a header that doesn't.
func spoil(h api.Header) api.Header {
	for target.Meets(header.ID(h), h.Bits) {
		h.Nonce++
	}
	return h
}

// first is a first header.
func first(bits, time uint32) api.Header {
	return api.Header{Version: 1, Time: time, Bits: bits}
}

// behind is a header behind another one, some seconds later, with its bits. Unlike marks make unlike headers.
func behind(h api.Header, seconds int, mark byte) api.Header {
	return mine(api.Header{
		Version: 2,
		Prev:    header.ID(h),
		Merkle:  api.Hash{mark},
		Time:    uint32(int(h.Time) + seconds),
		Bits:    h.Bits,
	})
}

// way is n headers one behind the other, the first one a first header.
func way(n int) []api.Header {
	l := []api.Header{first(easy, someTime)}
	for len(l) < n {
		l = append(l, behind(l[len(l)-1], 1, 0))
	}
	return l
}

func params(g api.Header) api.Params {
	return api.Params{Genesis: api.Block{Header: g}, Limit: easy}
}

func made(t *testing.T, p api.Params) *tree.Tree {
	t.Helper()
	x, e := tree.New(p)
	if e != api.OK || x == nil {
		t.Fatal(e)
	}
	return x
}

// grown is a tree that has taken headers, the first of them as its first one.
func grown(t *testing.T, l ...api.Header) *tree.Tree {
	t.Helper()
	x := made(t, params(l[0]))
	take(t, x, l[1:]...)
	return x
}

// take has a tree take new headers.
func take(t *testing.T, x *tree.Tree, l ...api.Header) {
	t.Helper()
	for i, h := range l {
		if e := x.Can(h, always); e != api.OK {
			t.Fatalf("Can %d of %d: %v", i, len(l), e)
		}
		if taken, e := x.Accept(h, always); !taken || e != api.OK {
			t.Fatalf("Accept %d of %d: %v %v", i, len(l), taken, e)
		}
	}
}

// wantNot asks whether Can and Accept refuse a header with an error, and the tree stays as it is.
func wantNot(t *testing.T, name string, x *tree.Tree, h api.Header, now uint32, want api.Errno) {
	t.Helper()
	all, tip := x.All(), x.Tip()
	for range 2 {
		if e := x.Can(h, now); e != want {
			t.Errorf("%s: Can: %v, not %v", name, e, want)
		}
		if taken, e := x.Accept(h, now); taken || e != want {
			t.Errorf("%s: Accept: %v %v, not %v", name, taken, e, want)
		}
	}
	id := header.ID(h)
	if want != api.OK {
		wantNone(t, name, x, id)
	}
	if !slices.Equal(x.All(), all) || x.Tip() != tip {
		t.Errorf("%s: the tree is another one", name)
	}
}

// wantTaken asks whether a header would be taken, and has the tree take it.
func wantTaken(t *testing.T, name string, x *tree.Tree, h api.Header, now uint32) {
	t.Helper()
	if e := x.Can(h, now); e != api.OK {
		t.Errorf("%s: Can: %v", name, e)
	}
	if _, ok := x.Header(header.ID(h)); ok {
		t.Errorf("%s: Can took it, or it was there", name)
	}
	if taken, e := x.Accept(h, now); !taken || e != api.OK {
		t.Errorf("%s: Accept: %v %v", name, taken, e)
	}
	if got, ok := x.Header(header.ID(h)); !ok || got != h {
		t.Errorf("%s: %v %v", name, got, ok)
	}
}

// wantNone asks whether an ID is unknown to all calls.
func wantNone(t *testing.T, name string, x *tree.Tree, id api.Hash) {
	t.Helper()
	h, ok := x.Header(id)
	height, ok2 := x.Height(id)
	work, ok3 := x.Work(id)
	if ok || ok2 || ok3 || h != (api.Header{}) || height != 0 || work != (api.Wide{}) {
		t.Errorf("%s: %v %v, %v %v, %v %v", name, h, ok, height, ok2, work, ok3)
	}
	for _, at := range []int{math.MinInt, -1, 0, 1, math.MaxInt} {
		wantAt(t, name, x, id, at, api.Hash{}, false)
	}
	for _, other := range []api.Hash{x.Tip(), id, {}} {
		wantFork(t, name, x, id, other, api.Hash{}, false)
		wantFork(t, name, x, other, id, api.Hash{}, false)
	}
}

func wantAt(t *testing.T, name string, x *tree.Tree, id api.Hash, height int, want api.Hash, there bool) {
	t.Helper()
	if got, ok := x.At(id, height); got != want || ok != there {
		t.Errorf("%s: At(%x, %d): %x %v, not %x %v", name, id[:4], height, got[:4], ok, want[:4], there)
	}
}

func wantFork(t *testing.T, name string, x *tree.Tree, a, b, want api.Hash, there bool) {
	t.Helper()
	if got, ok := x.Fork(a, b); got != want || ok != there {
		t.Errorf("%s: Fork(%x, %x): %x %v, not %x %v", name, a[:4], b[:4], got[:4], ok, want[:4], there)
	}
}

// noTargets are bits of each kind that is none.
var noTargets = []uint32{0, 0x03000000, 0x00ffffff, 0x020000ff, 0x1d800001, 0x20ffffff, 0x22000100, 0x23000001, 0xff7fffff, math.MaxUint32}

// P17.1: bits that are no targets.
func TestNewBits(t *testing.T) {
	for _, bits := range noTargets {
		for _, p := range []api.Params{
			{Genesis: api.Block{Header: first(easy, 1)}, Limit: bits},
			{Genesis: api.Block{Header: first(bits, 1)}, Limit: easy},
			{Genesis: api.Block{Header: first(bits, 1)}, Limit: bits, Interval: 10, Spacing: 10},
		} {
			if x, e := tree.New(p); x != nil || e != api.ErrArg {
				t.Errorf("%08x: %v %v", bits, x, e)
			}
		}
	}
	if x, e := tree.New(api.Params{}); x != nil || e != api.ErrArg {
		t.Error("noughts", x, e)
	}
}

// P17.1: targets of each kind; the first header needs not meet its own, nor be held by the limit.
func TestNewTargets(t *testing.T) {
	for _, limit := range []uint32{easy, easiest, 0x1d00ffff, 0x01010000, 0x03000001, 0x22000001} {
		for _, bits := range []uint32{easy, easiest, 0x1d00ffff, 0x01010000, 0x03000001, 0x22000001} {
			g := first(bits, 7)
			x := made(t, api.Params{Genesis: api.Block{Header: g}, Limit: limit})
			work, _ := target.Work(bits)
			wantOnly(t, fmt.Sprintf("%08x, limit %08x", bits, limit), x, g, work)
		}
	}
}

// wantOnly asks whether a tree has one header.
func wantOnly(t *testing.T, name string, x *tree.Tree, g api.Header, work api.Wide) {
	t.Helper()
	id := header.ID(g)
	if x.Tip() != id || !slices.Equal(x.All(), []api.Header{g}) || !slices.Equal(x.Locator(), []api.Hash{id}) {
		t.Errorf("%s: %x %v %x", name, x.Tip(), x.All(), x.Locator())
	}
	if got, ok := x.Header(id); got != g || !ok {
		t.Errorf("%s: %v %v", name, got, ok)
	}
	if height, ok := x.Height(id); height != 0 || !ok {
		t.Errorf("%s: height %d %v", name, height, ok)
	}
	if got, ok := x.Work(id); got != work || !ok {
		t.Errorf("%s: work %v %v", name, got, ok)
	}
	for _, h := range []int{math.MinInt, -1, 1, 2, math.MaxInt} {
		wantAt(t, name, x, id, h, api.Hash{}, false)
	}
	wantAt(t, name, x, id, 0, id, true)
	wantFork(t, name, x, id, id, id, true)
	wantNone(t, name, x, g.Prev)
	wantNot(t, name, x, g, 0, api.OK)
}

// P17.1: which intervals and spacings can be.
func TestNewSpans(t *testing.T) {
	edges := []int{
		math.MinInt, math.MinInt64/2 + 1, -10000, -2, -1, 0, 1, 2, 3, 4, 5, 600, 2016, 9999, 10000, 10001, 20000,
		1 << 31, 1 << 32, 1<<32 + 2, 1<<62 + 2, 1 << 62, math.MaxInt - 1, math.MaxInt,
	}
	can := func(interval, spacing int) bool {
		product := new(big.Int).Mul(big.NewInt(int64(interval)), big.NewInt(int64(spacing)))
		return interval == 0 || 2 <= interval && interval <= 10000 && 1 <= spacing && spacing <= 10000 && product.Cmp(big.NewInt(4)) >= 0
	}
	count := map[bool]int{}
	for _, interval := range edges {
		for _, spacing := range edges {
			p := params(first(easy, 1))
			p.Interval, p.Spacing = interval, spacing
			x, e := tree.New(p)
			ok := can(interval, spacing)
			count[ok]++
			if ok && (x == nil || e != api.OK) || !ok && (x != nil || e != api.ErrArg) {
				t.Errorf("interval %d, spacing %d: %v", interval, spacing, e)
			}
		}
	}
	if count[true] < 80 || count[false] < 200 {
		t.Error(count)
	}
}

// The chapter's example, and what else has no parent: this comes ahead of work, time and checks.
func TestParent(t *testing.T) {
	l := way(4)
	x := made(t, params(l[0]))
	wantNot(t, "noughts", x, api.Header{}, 0, api.ErrParent)
	wantNot(t, "a grandchild", x, l[2], always, api.ErrParent)
	wrong := l[2]
	wrong.Bits, wrong.Time = 0, 0
	wantNot(t, "with wrong bits", x, wrong, 0, api.ErrParent)
	wrong = spoil(l[3])
	wantNot(t, "without work", x, wrong, 0, api.ErrParent)
	take(t, x, l[1])
	wantNot(t, "a grandchild", x, l[3], always, api.ErrParent)
	own := l[0]
	own.Prev = header.ID(own)
	wantNot(t, "another one, behind the first one", x, spoil(own), always, api.ErrWork)
	take(t, x, l[2:]...)
}

// P17.2: one that is there is so for ever, whatever the clock says.
func TestThere(t *testing.T) {
	l := way(5)
	x := grown(t, l...)
	for _, h := range l {
		for _, now := range []uint32{0, someTime, always} {
			wantNot(t, "there", x, h, now, api.OK)
		}
	}
}

// P17.2: headers that lack work, or say other bits.
func TestWork(t *testing.T) {
	l := way(3)
	x := grown(t, l...)
	tip := l[2]
	child := behind(tip, 1, 0)
	wantNot(t, "no work", x, spoil(child), always, api.ErrWork)
	for _, bits := range []uint32{0, easy - 1, 0x207ffffe, 0x20400000, 0x1d00ffff, easiest, 0x20ffffff, math.MaxUint32} {
		wrong := child
		wrong.Bits = bits
		wantNot(t, fmt.Sprintf("%08x", bits), x, wrong, always, api.ErrWork)
		wrong.Time = 0
		wantNot(t, fmt.Sprintf("%08x, and too early", bits), x, wrong, always, api.ErrWork)
	}
	hard := child
	hard.Bits = 0x2000ffff
	wantNot(t, "more work than is asked for", x, mine(hard), always, api.ErrWork)
	early := child
	early.Time = 0
	wantNot(t, "no work, and too early", x, spoil(early), always, api.ErrWork)
	wantNot(t, "no work, and too late", x, spoil(child), 0, api.ErrWork)
	wantTaken(t, "its work", x, child, always)
}

// P17.2: a hash that is just above the target lacks work: with the bits of a hash itself, and with those below.
func TestWorkEdge(t *testing.T) {
	g := first(0, 1)
	for want := byte(0); want < 4; want++ {
		// The bits are as wide as the hash, so that only the first three bytes decide.
		child := api.Header{Time: 2, Merkle: api.Hash{want}}
		bits := []uint32{0x20123456, 0x20345678, 0x20567800, 0x207f0000}[want]
		g.Bits, child.Bits = bits, bits
		child.Prev = header.ID(g)
		top := target0(bits)
		met := 0
		p := api.Params{Genesis: api.Block{Header: g}, Limit: easiest}
		for range 200 {
			child.Nonce++
			x := made(t, p)
			n := wide.Of(header.ID(child))
			if wide.Compare(n, top) <= 0 {
				met++
				wantTaken(t, "below", x, child, always)
			} else {
				wantNot(t, "above", x, child, always, api.ErrWork)
			}
		}
		if met == 0 || met == 200 {
			t.Errorf("%08x: %d of 200", bits, met)
		}
	}
}

func target0(bits uint32) api.Wide {
	n, _ := target.Expand(bits)
	return n
}

// P17.2: the median of one header up to twelve: only the last eleven play a part.
func TestMedian(t *testing.T) {
	for n := 1; n <= 30; n++ {
		for _, gaps := range [][]int{{1}, {10}, {10, -4}, {20, -3, -3}, {7, 1, 30, -9, 2}, {100, -20, -20, -20}, {1, 1, 1, 5000, -4999, 1, 1, 1, 1, 1, 1, 1, 1, 1, 1, 1, 1}} {
			l := []api.Header{first(easy, someTime)}
			x := grown(t, l...)
			for i := 1; i < n; i++ {
				h := behind(l[i-1], gaps[i%len(gaps)], 0)
				if h.Time <= medianOf(l) {
					h = behind(l[i-1], int(medianOf(l))+1-int(l[i-1].Time), 0)
				}
				take(t, x, h)
				l = append(l, h)
			}
			m := int(medianOf(l)) - int(l[n-1].Time)
			name := fmt.Sprint(n, " headers, gaps ", gaps)
			wantNot(t, name, x, behind(l[n-1], m, 1), always, api.ErrTime)
			wantNot(t, name, x, behind(l[n-1], m-1, 1), always, api.ErrTime)
			wantNot(t, name, x, behind(l[n-1], -int(l[n-1].Time), 1), always, api.ErrTime)
			wantTaken(t, name, x, behind(l[n-1], m+1, 1), always)
		}
	}
}

// medianOf is that of the last header of a way.
func medianOf(l []api.Header) uint32 {
	var times []uint32
	for _, h := range l[max(len(l)-11, 0):] {
		times = append(times, h.Time)
	}
	slices.Sort(times)
	return times[len(times)/2]
}

// P17.2: medians of two and of four: the upper one of the two in the middle; and of eleven, the sixth.
func TestMedianByHand(t *testing.T) {
	for _, times := range [][]int{
		// the last one is the median
		{5, 5},
		{5, 9, 9},
		{5, 9, 13, 9},
		{5, 9, 13, 11, 11},
		{10, 20, 30, 40, 50, 60, 70, 80, 90, 100, 110, 60},
		{10, 20, 30, 40, 50, 60, 70, 80, 90, 100, 110, 61, 61},
		// a late one among eleven, and as the twelfth
		{0, 1, 2, 5000, 3, 4, 5, 6, 7, 8, 9, 10, 11, 12, 8},
		{0, 1, 2, 5000, 3, 4, 5, 6, 7, 8, 9, 10, 11, 12, 13, 8},
	} {
		l := []api.Header{first(easy, uint32(times[0]))}
		x := grown(t, l...)
		for i, time := range times[1 : len(times)-1] {
			l = append(l, behind(l[i], time-int(l[i].Time), 0))
			take(t, x, l[i+1])
		}
		last := l[len(l)-1]
		median := times[len(times)-1] - int(last.Time)
		wantNot(t, fmt.Sprint(times), x, behind(last, median, 0), always, api.ErrTime)
		wantTaken(t, fmt.Sprint(times), x, behind(last, median+1, 0), always)
	}
}

// P17.2: how far a header may lie ahead of the clock; nothing goes round.
func TestFuture(t *testing.T) {
	for _, now := range []uint32{0, 1, someTime, math.MaxUint32 - 7201, math.MaxUint32 - 7200} {
		g := first(easy, 0)
		x := grown(t, g)
		edge := int(now) + 7200
		if edge < math.MaxUint32 {
			wantNot(t, "one second further", x, behind(g, edge+1, 0), now, api.ErrTime)
			wantNot(t, "far ahead", x, behind(g, math.MaxUint32, 0), now, api.ErrTime)
		}
		wantTaken(t, "just so far", x, behind(g, edge, 0), now)
		wantTaken(t, "less far", x, behind(g, edge-1, 0), now)
	}
	g := first(easy, 0)
	for _, now := range []uint32{math.MaxUint32 - 7199, math.MaxUint32 - 1, math.MaxUint32} {
		wantTaken(t, "the last second", grown(t, g), behind(g, math.MaxUint32, 0), now)
		wantTaken(t, "an early one", grown(t, g), behind(g, 1, 0), now)
	}
	last := first(easy, math.MaxUint32)
	x := grown(t, last)
	for _, seconds := range []int{0, -1, 1} { // with one second more, it is 0
		wantNot(t, "behind the last second", x, behind(last, seconds, 0), always, api.ErrTime)
	}
}

// P17.2: time comes ahead of checks; a check tells of its height on all ways.
func TestChecks(t *testing.T) {
	l := way(5)
	ids := idsOf(l)
	other := func(i int) api.Header { return behind(l[i-1], 1, 9) }
	p := params(l[0])
	p.Checks = []api.Check{
		{Height: 3, ID: ids[3]},
		{Height: 1, ID: ids[1]},
		{Height: 3, ID: ids[3]},
		{Height: 0, ID: api.Hash{1}}, // the first one is asked nothing
		{Height: -2, ID: ids[2]},
		{Height: 1000000, ID: ids[4]},
		{Height: math.MinInt, ID: ids[2]},
		{Height: math.MaxInt, ID: ids[2]},
	}
	x := made(t, p)
	wantNot(t, "another one at height 1", x, other(1), always, api.ErrCheck)
	wantNot(t, "and too late", x, other(1), 0, api.ErrTime)
	early := behind(l[0], 0, 9)
	wantNot(t, "and too early", x, early, always, api.ErrTime)
	take(t, x, l[1], l[2])
	side := other(2)
	wantTaken(t, "no check", x, side, always)
	wantNot(t, "a known header's height, another way", x, behind(side, 1, 0), always, api.ErrCheck)
	wantNot(t, "a known header's height", x, other(3), always, api.ErrCheck)
	take(t, x, l[3], l[4])
	wantTaken(t, "no check", x, other(4), always)
	wantNot(t, "a known header's height, late", x, other(3), always, api.ErrCheck)
	wantNot(t, "there already", x, l[3], 0, api.OK)
}

// P17.2: of checks with unlike IDs at one height, each refuses the other's.
func TestChecksUnlike(t *testing.T) {
	l := way(3)
	ids := idsOf(l)
	for _, c := range [][]api.Hash{
		{ids[1], {1}}, {{1}, ids[1]}, {{1}}, {{}}, {{1}, {2}, ids[1]}, {{1}, {1}, ids[1]}, {ids[1], ids[1], {1}}, {ids[2]},
	} {
		p := params(l[0])
		for _, id := range c {
			p.Checks = append(p.Checks, api.Check{Height: 1, ID: id})
		}
		wantNot(t, fmt.Sprintf("%x", c), made(t, p), l[1], always, api.ErrCheck)
	}
	p := params(l[0])
	for range 5 {
		p.Checks = append(p.Checks, api.Check{Height: 1, ID: ids[1]}, api.Check{Height: 2, ID: ids[2]})
	}
	take(t, made(t, p), l[1:]...)
}

func idsOf(l []api.Header) []api.Hash {
	var ids []api.Hash
	for _, h := range l {
		ids = append(ids, header.ID(h))
	}
	return ids
}

// P17.2: with MaxCount headers all new ones are refused so, and those that are there are so.
func TestFull(t *testing.T) {
	l := way(api.MaxCount + 2)
	x := grown(t, l[:api.MaxCount-1]...)
	fork := behind(l[5], 1, 9)
	take(t, x, l[api.MaxCount-1])
	if n := len(x.All()); n != api.MaxCount {
		t.Fatal(n)
	}
	wantNot(t, "one more", x, l[api.MaxCount], always, api.ErrFull)
	wantNot(t, "one further", x, l[api.MaxCount+1], always, api.ErrFull)
	wantNot(t, "another way", x, fork, always, api.ErrFull)
	wantNot(t, "noughts", x, api.Header{}, 0, api.ErrFull)
	wantNot(t, "the last one", x, l[api.MaxCount-1], 0, api.OK)
	wantNot(t, "the first one", x, l[0], 0, api.OK)
	height, ok := x.Height(x.Tip())
	if !ok || height != api.MaxCount-1 {
		t.Error(height, ok)
	}
	wantLocator(t, x)
	if !slices.Equal(x.All(), l[:api.MaxCount]) {
		t.Error("All")
	}
}

// P17.2: at heights that the interval divides bits are reckoned anew, at the others they are the parent's.
func TestBits(t *testing.T) {
	const begin = 0x200fffff
	for _, c := range []struct {
		interval, spacing int
		limit, begin      uint32
		gaps              []int
		bits              []uint32 // from height 1 on
	}{
		{2, 2, easy, begin, []int{1, 1, 16, 1}, []uint32{begin, 0x2003ffff, 0x2003ffff, 0x200ffffc}},
		{2, 2, easy, begin, []int{2, 1, 3, 1, 4, 1}, []uint32{begin, 0x2007ffff, 0x2007ffff, 0x2005ffff, 0x2005ffff, 0x2005ffff}},
		{2, 2, 0x2017ffff, begin, []int{8, 1, 40, 1}, []uint32{begin, 0x2017ffff, 0x2017ffff, 0x2017ffff}},
		// the span is that of Interval - 1 gaps
		{4, 1, easy, begin, []int{1, 1, 1, 1, 1, 1, 1, 1}, []uint32{begin, begin, begin, 0x200bffff, 0x200bffff, 0x200bffff, 0x200bffff, 0x2008ffff}},
		{3, 2, easy, 0x2007ffff, []int{6, 6, 6, 1, 2, 1}, []uint32{0x2007ffff, 0x2007ffff, 0x200ffffe, 0x200ffffe, 0x200ffffe, 0x2007ffff}},
		// one that is below nought counts as the least one
		{4, 5, easy, begin, []int{1, 1, 1, 4997, -4996, 1, 1, 1}, []uint32{begin, begin, begin, 0x2003ffff, 0x2003ffff, 0x2003ffff, 0x2003ffff, 0x2000ffff}},
		// a limit below the first header's bits
		{2, 5, 0x2007ffff, begin, []int{10, 10, 1}, []uint32{begin, 0x2007ffff, 0x2007ffff}},
		// no interval: the limit plays no part
		{0, 0, 0x2007ffff, easy, []int{1, 1, 100}, []uint32{easy, easy, easy}},
		{0, -5, easy, begin, []int{100, 100, 100}, []uint32{begin, begin, begin}},
		// a product that goes over
		{2, 2, easy, easy, []int{4, 1}, []uint32{easy, 0x203fffff}},
	} {
		name := fmt.Sprintf("%d, %d, limit %08x, %08x, gaps %d", c.interval, c.spacing, c.limit, c.begin, c.gaps)
		p := params(first(c.begin, someTime))
		p.Limit, p.Interval, p.Spacing = c.limit, c.interval, c.spacing
		x := made(t, p)
		last := p.Genesis.Header
		for i, bits := range c.bits {
			h := api.Header{Prev: header.ID(last), Time: last.Time + uint32(c.gaps[i]), Bits: bits}
			for _, wrong := range []uint32{easy, easiest, 0x201fffff, 0x203fffff, 0x2007ffff, bits - 1, bits + 1, c.limit, c.begin, last.Bits} {
				if wrong != bits {
					no := h
					no.Bits = wrong
					wantNot(t, fmt.Sprintf("%s: height %d, %08x", name, i+1, wrong), x, mine(no), always, api.ErrWork)
				}
			}
			h = mine(h)
			wantTaken(t, fmt.Sprintf("%s: height %d", name, i+1), x, h, always)
			last = h
		}
	}
}

// bitsBehind is what the chapter says that the header behind a way must say, and at which height that stands.
func bitsBehind(p api.Params, l []api.Header) (uint32, int) {
	height := len(l)
	parent := l[height-1]
	if p.Interval == 0 || height%p.Interval != 0 {
		return parent.Bits, height
	}
	span := int64(parent.Time) - int64(l[height-p.Interval].Time)
	bits, e := target.Next(parent.Bits, p.Limit, int(span), p.Interval*p.Spacing)
	if e != api.OK {
		panic(e)
	}
	return bits, height
}

// P17.3: the most work, not the most headers; of several the first one that came.
func TestTip(t *testing.T) {
	l := way(4)
	x := grown(t, l...)
	other := []api.Header{behind(l[1], 1, 5)}
	for range 3 {
		other = append(other, behind(other[len(other)-1], 1, 5))
	}
	for i, h := range other {
		tip := header.ID(l[3])
		if i >= 2 {
			tip = header.ID(h)
		}
		take(t, x, h)
		if x.Tip() != tip {
			t.Errorf("%d headers of another way: %x", i+1, x.Tip())
		}
	}
	last := behind(l[3], 1, 0)
	take(t, x, last, behind(l[0], 1, 7))
	if x.Tip() != header.ID(other[3]) {
		t.Error("the first way, less high again", x.Tip())
	}
	last = behind(last, 1, 0)
	take(t, x, last)
	if x.Tip() != header.ID(other[3]) {
		t.Error("as much work", x.Tip())
	}
	last = behind(last, 1, 0)
	take(t, x, last)
	if x.Tip() != header.ID(last) {
		t.Error("more work", x.Tip())
	}
}

// P17.3: few headers with much work stand above many with little; works go together.
func TestTipWork(t *testing.T) {
	p := params(first(0x200fffff, someTime))
	p.Interval, p.Spacing = 2, 2
	g := p.Genesis.Header
	fast := behind(g, 1, 0)
	hard := mine(api.Header{Prev: header.ID(fast), Time: fast.Time + 1, Bits: 0x2003ffff})
	slow := []api.Header{behind(g, 4, 0)}
	for range 5 {
		slow = append(slow, behind(slow[len(slow)-1], 4, 0))
	}
	x := made(t, p)
	take(t, x, slow...)
	if x.Tip() != header.ID(slow[5]) {
		t.Error("the slow way", x.Tip())
	}
	take(t, x, fast, hard)
	for _, c := range []struct {
		h      api.Header
		work   uint64
		height int
	}{{g, 16, 0}, {slow[0], 32, 1}, {slow[3], 80, 4}, {slow[5], 112, 6}, {fast, 32, 1}, {hard, 96, 2}} {
		work, ok := x.Work(header.ID(c.h))
		height, ok2 := x.Height(header.ID(c.h))
		if work != (api.Wide{c.work}) || height != c.height || !ok || !ok2 {
			t.Errorf("%v %v, height %d %v; not %d, height %d", work, ok, height, ok2, c.work, c.height)
		}
	}
	harder := behind(hard, 4, 0)
	take(t, x, harder)
	if x.Tip() != header.ID(harder) {
		t.Error("height 3 has more work than height 6", x.Tip())
	}
}

// P17.3: the first two headers of the chain that everybody knows.
func TestPublished(t *testing.T) {
	headers := []api.Header{
		{Version: 1, Merkle: shown("4a5e1e4baab89f3a32518a88c31bc87f618f76673e2cc77ab2127b7afdeda33b"), Time: 1231006505, Bits: 0x1d00ffff, Nonce: 2083236893},
		{Version: 1, Merkle: shown("0e3e2357e806b6cdb1f70b54c3a3a17b6714ee1f0e68bebb44a74b1efd512098"), Time: 1231469665, Bits: 0x1d00ffff, Nonce: 2573394689},
		{Version: 1, Merkle: shown("9b0fc92260312ce44e74ef369f5c66bbb85848f2eddd5a7a1cde251e54ccfdd5"), Time: 1231469744, Bits: 0x1d00ffff, Nonce: 1639830024},
	}
	ids := []api.Hash{
		shown("000000000019d6689c085ae165831e934ff763ae46a2a6c172b3f1b60a8ce26f"),
		shown("00000000839a8e6886ab5951d76f411475428afc90947ee320161bbf18eb6048"),
		shown("000000006a625f06636b8bb6ac7b960a8d03705d1ace08b1a19da3fdcc99ddbd"),
	}
	headers[1].Prev, headers[2].Prev = ids[0], ids[1]
	p := api.Params{
		Genesis: api.Block{Header: headers[0]}, Limit: 0x1d00ffff, Interval: 2016, Spacing: 600,
		Checks: []api.Check{{Height: 2, ID: ids[2]}},
	}
	x := made(t, p)
	for i, h := range headers[1:] {
		wantTaken(t, "known to everybody", x, h, h.Time)
		if x.Tip() != ids[i+1] {
			t.Errorf("%x", x.Tip())
		}
	}
	if work, ok := x.Work(ids[2]); work != (api.Wide{0x300030003}) || !ok {
		t.Errorf("%x", work)
	}
	if !slices.Equal(x.Locator(), []api.Hash{ids[2], ids[1], ids[0]}) {
		t.Errorf("%x", x.Locator())
	}
	wrong := headers[1]
	wrong.Nonce++
	wantNot(t, "another nonce", x, wrong, always, api.ErrWork)
}

// shown is a hash that is shown with the highest byte first.
func shown(text string) api.Hash {
	b, err := hex.DecodeString(text)
	if err != nil {
		panic(err)
	}
	slices.Reverse(b)
	return api.Hash(b)
}

// P17.3: each height of a long way, and those that are none.
func TestAt(t *testing.T) {
	l := way(300)
	ids := idsOf(l)
	x := grown(t, l...)
	for i, id := range ids {
		for h := range i + 1 {
			if got, ok := x.At(id, h); got != ids[h] || !ok {
				t.Fatalf("At height %d of a way to %d: %x %v", h, i, got, ok)
			}
		}
		for _, h := range []int{-1, -2, -i - 1, i + 1, i + 2, math.MinInt, math.MaxInt, 1 << 32} {
			wantAt(t, "no height", x, id, h, api.Hash{}, false)
		}
	}
}

// P17.3: ways that part at each height.
func TestFork(t *testing.T) {
	l := way(40)
	ids := idsOf(l)
	x := grown(t, l...)
	sides := map[int][]api.Hash{} // ways that go off behind a height
	for i := range l {
		last := l[i]
		for range i%7 + 1 {
			last = behind(last, 1, 3)
			take(t, x, last)
			sides[i] = append(sides[i], header.ID(last))
		}
	}
	for i, side := range sides {
		for _, id := range side {
			for j, on := range ids {
				wantFork(t, "a side and the way", x, id, on, ids[min(i, j)], true)
				wantFork(t, "the way and a side", x, on, id, ids[min(i, j)], true)
			}
		}
		for j, further := range sides {
			if i == j {
				for a := range side {
					for b := range side {
						wantFork(t, "one side", x, side[a], side[b], side[min(a, b)], true)
					}
				}
				continue
			}
			for _, id := range further {
				wantFork(t, "two sides", x, side[0], id, ids[min(i, j)], true)
				wantFork(t, "two sides", x, side[len(side)-1], id, ids[min(i, j)], true)
			}
		}
	}
	for _, id := range ids {
		wantFork(t, "itself", x, id, id, id, true)
		wantFork(t, "one that is not there", x, id, api.Hash{1}, api.Hash{}, false)
		wantFork(t, "one that is not there", x, api.Hash{1}, id, api.Hash{}, false)
	}
	wantNone(t, "not there", x, api.Hash{1})
}

// wantLocator asks whether a locator has the heights that the chapter names.
func wantLocator(t *testing.T, x *tree.Tree) {
	t.Helper()
	height, _ := x.Height(x.Tip())
	var heights []int
	for h, i, step := height, 0, 1; h > 0; i++ {
		heights = append(heights, h)
		if i >= 10 {
			step *= 2
		}
		h -= step
	}
	heights = append(heights, 0)
	var want []api.Hash
	for _, h := range heights {
		id, ok := x.At(x.Tip(), h)
		if !ok {
			t.Fatal("no height", h)
		}
		want = append(want, id)
	}
	if got := x.Locator(); !slices.Equal(got, want) {
		t.Errorf("tip at height %d: %d IDs, not of heights %d", height, len(got), heights)
	}
}

// P17.4: each height of a tip.
func TestLocator(t *testing.T) {
	l := way(1200)
	x := grown(t, l[0])
	wantLocator(t, x)
	for _, h := range l[1:] {
		take(t, x, h)
		wantLocator(t, x)
	}
}

// P17.4: some heights by hand, each once, down to the first header.
func TestLocatorByHand(t *testing.T) {
	for _, want := range [][]int{
		{0},
		{1, 0},
		{2, 1, 0},
		{9, 8, 7, 6, 5, 4, 3, 2, 1, 0},
		{10, 9, 8, 7, 6, 5, 4, 3, 2, 1, 0},
		{11, 10, 9, 8, 7, 6, 5, 4, 3, 2, 1, 0},
		{12, 11, 10, 9, 8, 7, 6, 5, 4, 3, 2, 0},
		{13, 12, 11, 10, 9, 8, 7, 6, 5, 4, 3, 1, 0},
		{16, 15, 14, 13, 12, 11, 10, 9, 8, 7, 6, 4, 0},
		{17, 16, 15, 14, 13, 12, 11, 10, 9, 8, 7, 5, 1, 0},
		{24, 23, 22, 21, 20, 19, 18, 17, 16, 15, 14, 12, 8, 0},
		{25, 24, 23, 22, 21, 20, 19, 18, 17, 16, 15, 13, 9, 1, 0},
		{100, 99, 98, 97, 96, 95, 94, 93, 92, 91, 90, 88, 84, 76, 60, 28, 0},
	} {
		l := way(want[0] + 1)
		x := grown(t, l...)
		var heights []int
		for _, id := range x.Locator() {
			h, _ := x.Height(id)
			heights = append(heights, h)
		}
		if !slices.Equal(heights, want) {
			t.Errorf("%d, not %d", heights, want)
		}
	}
}

// P17.4: the way to the tip, not another one; and all headers as they came.
func TestLocatorAll(t *testing.T) {
	l := way(5)
	side := []api.Header{behind(l[1], 1, 1)}
	for range 4 {
		side = append(side, behind(side[len(side)-1], 1, 1))
	}
	order := []api.Header{l[0], l[1], side[0], l[2], l[3], side[1], side[2], l[4], side[3], side[4]}
	x := grown(t, order...)
	if !slices.Equal(x.All(), order) {
		t.Error("All", x.All())
	}
	ids := idsOf([]api.Header{side[4], side[3], side[2], side[1], side[0], l[1], l[0]})
	if !slices.Equal(x.Locator(), ids) {
		t.Errorf("%x", x.Locator())
	}
}

// plain is a tree by the chapter's words: each header has all of its way.
type plain struct {
	p    api.Params
	ways map[api.Hash][]api.Header
	all  []api.Header
}

func (m *plain) can(h api.Header, now uint32) api.Errno {
	id := header.ID(h)
	if _, ok := m.ways[id]; ok {
		return api.OK
	}
	l, ok := m.ways[h.Prev]
	if !ok {
		return api.ErrParent
	}
	bits, height := bitsBehind(m.p, l)
	if h.Bits != bits || !target.Meets(id, h.Bits) {
		return api.ErrWork
	}
	if h.Time <= medianOf(l) || int64(h.Time) > int64(now)+7200 {
		return api.ErrTime
	}
	for _, c := range m.p.Checks {
		if c.Height == height && c.ID != id {
			return api.ErrCheck
		}
	}
	return api.OK
}

func (m *plain) take(h api.Header) {
	m.ways[header.ID(h)] = append(slices.Clone(m.ways[h.Prev]), h)
	m.all = append(m.all, h)
}

func (m *plain) work(id api.Hash) *big.Int {
	sum := new(big.Int)
	for _, h := range m.ways[id] {
		top := new(big.Int)
		w := target0(h.Bits)
		for _, x := range slices.Backward(w[:]) {
			top.Lsh(top, 64).Or(top, new(big.Int).SetUint64(x))
		}
		whole := new(big.Int).Lsh(big.NewInt(1), 256)
		sum.Add(sum, whole.Quo(whole, top.Add(top, big.NewInt(1))))
	}
	return sum
}

func (m *plain) tip() api.Hash {
	best := header.ID(m.all[0])
	for _, h := range m.all {
		if m.work(header.ID(h)).Cmp(m.work(best)) > 0 {
			best = header.ID(h)
		}
	}
	return best
}

// next is a header that may be right or wrong in one part or another.
func (m *plain) next(r *rand.Rand) (api.Header, uint32) {
	parent := m.all[r.Intn(len(m.all))]
	if r.Intn(3) > 0 {
		parent = m.all[len(m.all)-1]
	}
	l := m.ways[header.ID(parent)]
	bits, _ := bitsBehind(m.p, l)
	h := api.Header{Version: r.Uint32(), Prev: header.ID(parent), Bits: bits, Time: parent.Time + uint32(r.Intn(40))}
	if work, _ := target.Work(bits); work[0] > 500 { // else headers would take too long
		h.Time = parent.Time + 200
	}
	now := h.Time - uint32(r.Intn(7200))
	switch r.Intn(20) {
	case 0:
		h.Prev[r.Intn(32)]++
	case 1:
		h.Bits = []uint32{easy, easiest, 0, 0x201fffff, bits + 1}[r.Intn(5)]
	case 2:
		return spoil(h), now
	case 3:
		h.Time = medianOf(l) + uint32(r.Intn(3)) - 1
	case 4:
		now = h.Time - 7200 + uint32(r.Intn(3)) - 1
	case 5:
		return m.all[r.Intn(len(m.all))], 0
	}
	if e := m.can(h, now); e == api.ErrWork && h.Bits == bits {
		h = mine(h)
	}
	return h, now
}

// All promises: random headers on trees of several kinds, held against the plain one.
func TestRandom(t *testing.T) {
	r := rand.New(rand.NewSource(17))
	count := map[api.Errno]int{}
	for round := range 60 {
		p := params(first(easy, someTime))
		p.Interval = []int{0, 2, 3, 4, 7, 11}[round%6]
		p.Spacing = []int{20, 10, 30}[round%3]
		p.Limit = []uint32{easy, 0x203fffff, easiest}[round%3]
		m := &plain{p: p, ways: map[api.Hash][]api.Header{}}
		m.take(p.Genesis.Header)
		if round%4 == 1 {
			m.p.Checks = []api.Check{{Height: 5, ID: api.Hash{1}}}
		}
		x := made(t, m.p)
		for range 60 {
			h, now := m.next(r)
			wanted := m.can(h, now)
			_, there := m.ways[header.ID(h)]
			count[wanted]++
			if e := x.Can(h, now); e != wanted {
				t.Fatalf("Can: %v, not %v", e, wanted)
			}
			taken, e := x.Accept(h, now)
			if e != wanted || taken != (e == api.OK && !there) {
				t.Fatalf("Accept: %v %v, not %v", taken, e, wanted)
			}
			if taken {
				m.take(h)
			}
		}
		wantPlain(t, x, m)
	}
	for _, e := range []api.Errno{api.OK, api.ErrParent, api.ErrWork, api.ErrTime, api.ErrCheck} {
		if count[e] < 20 {
			t.Errorf("only %d answered %v", count[e], e)
		}
	}
}

// wantPlain asks whether a tree answers as the plain one.
func wantPlain(t *testing.T, x *tree.Tree, m *plain) {
	t.Helper()
	if x.Tip() != m.tip() || !slices.Equal(x.All(), m.all) {
		t.Fatal("another tip, or other headers")
	}
	wantLocator(t, x)
	for _, h := range m.all {
		id := header.ID(h)
		l := m.ways[id]
		got, ok := x.Header(id)
		height, ok2 := x.Height(id)
		work, ok3 := x.Work(id)
		if got != h || height != len(l)-1 || !ok || !ok2 || !ok3 || wideOf(m.work(id)) != work {
			t.Fatalf("%v %v, %d %v, %v %v", got, ok, height, ok2, work, ok3)
		}
		for i := range l {
			wantAt(t, "random", x, id, i, header.ID(l[i]), true)
		}
		wantAt(t, "random", x, id, len(l), api.Hash{}, false)
		for _, g := range m.all {
			other := m.ways[header.ID(g)]
			n := 0
			for n < min(len(l), len(other)) && l[n] == other[n] {
				n++
			}
			wantFork(t, "random", x, id, header.ID(g), header.ID(l[n-1]), true)
		}
	}
}

func wideOf(n *big.Int) api.Wide {
	return api.Wide{n.Uint64()} // less than 2^64 in these trees
}

// P17.5: the tip's work never falls.
func TestWorkNeverFalls(t *testing.T) {
	r := rand.New(rand.NewSource(5))
	p := params(first(easy, someTime))
	p.Interval, p.Spacing = 3, 10
	m := &plain{p: p, ways: map[api.Hash][]api.Header{}}
	m.take(p.Genesis.Header)
	x := made(t, p)
	before := api.Wide{}
	for range 500 {
		h, now := m.next(r)
		if taken, _ := x.Accept(h, now); taken {
			m.take(h)
		}
		work, ok := x.Work(x.Tip())
		if !ok || wide.Compare(work, before) < 0 {
			t.Fatalf("%v behind %v", work, before)
		}
		before = work
	}
	if before == (api.Wide{2}) {
		t.Error("nothing was taken")
	}
}

// A tree that no call made answers ErrNil and noughts.
func TestNoTree(t *testing.T) {
	var none *tree.Tree
	l := way(2)
	for name, x := range map[string]*tree.Tree{"nil": none, "plain": {}} {
		for _, h := range []api.Header{{}, l[0], l[1]} {
			if e := x.Can(h, always); e != api.ErrNil {
				t.Errorf("%s: Can: %v", name, e)
			}
			if taken, e := x.Accept(h, always); taken || e != api.ErrNil {
				t.Errorf("%s: Accept: %v %v", name, taken, e)
			}
			wantNone(t, name, x, header.ID(h))
		}
		wantNone(t, name, x, api.Hash{})
		if x.Tip() != (api.Hash{}) || len(x.Locator()) != 0 || len(x.All()) != 0 {
			t.Errorf("%s: %x %x %v", name, x.Tip(), x.Locator(), x.All())
		}
	}
}

// A copy of a tree's value is that tree still.
func TestValueCopy(t *testing.T) {
	l := way(3)
	x := grown(t, l[0])
	y := *x
	take(t, x, l[1])
	take(t, &y, l[2])
	if x.Tip() != header.ID(l[2]) || y.Tip() != x.Tip() || !slices.Equal(x.All(), y.All()) {
		t.Errorf("%x %x", x.Tip(), y.Tip())
	}
}

// Two trees of one chain have nothing in common.
func TestTwoTrees(t *testing.T) {
	l := way(3)
	x, y := grown(t, l...), grown(t, l[0])
	if y.Tip() != header.ID(l[0]) || len(y.All()) != 1 {
		t.Error("one tree's headers are in another one")
	}
	take(t, y, behind(l[0], 1, 8))
	if len(x.All()) != 3 {
		t.Error("and back")
	}
}

// What is handed in is neither changed, the room behind its end included, nor kept.
func TestArguments(t *testing.T) {
	l := way(4)
	ids := idsOf(l)
	room := []api.Check{{Height: 2, ID: ids[2]}, {Height: 1, ID: ids[1]}, {Height: 3, ID: api.Hash{1}}}
	p := params(l[0])
	p.Genesis.Txs = []api.Tx{{Version: 1}}
	p.Checks = room[:2]
	x := made(t, p)
	if room[0] != (api.Check{Height: 2, ID: ids[2]}) || room[1].Height != 1 || room[2] != (api.Check{Height: 3, ID: api.Hash{1}}) {
		t.Error(room)
	}
	for i := range room {
		room[i].ID = api.Hash{7}
		room[i].Height = i + 1
	}
	p.Genesis.Txs[0].Version = 9
	take(t, x, l[1:]...)
	y := made(t, params(l[0]))
	wantNot(t, "a second tree", y, l[2], always, api.ErrParent)
}

// Answers are new memory, spare room included.
func TestAnswersNew(t *testing.T) {
	for n := 1; n < 40; n++ {
		l := way(n)
		x := grown(t, l...)
		all, ids := x.All(), x.Locator()
		clear(all[:cap(all)])
		clear(ids[:cap(ids)])
		if !slices.Equal(x.All(), l) || x.Tip() != header.ID(l[n-1]) {
			t.Fatal(n, "answers are the tree's memory")
		}
		wantLocator(t, x)
		all, ids = x.All(), x.Locator()
		rest, behind := slices.Clone(all[:cap(all)]), slices.Clone(ids[:cap(ids)])
		take(t, x, way(n + 1)[n])
		x.All()
		x.Locator()
		if !slices.Equal(all[:cap(all)], rest) || !slices.Equal(ids[:cap(ids)], behind) {
			t.Fatal(n, "the tree writes into an answer")
		}
	}
}

// What a block has beside its header, and checks of which there are many alike, are let go.
func TestLetsGo(t *testing.T) {
	l := way(3)
	trees := make([]*tree.Tree, 20)
	before := heap()
	for i := range trees {
		p := params(l[0])
		p.Genesis.Txs = []api.Tx{{Out: []api.Out{{Script: make([]byte, 1<<20)}}}}
		for n := range 1 << 14 {
			p.Checks = append(p.Checks, api.Check{Height: 2, ID: api.Hash{byte(n), byte(n >> 8), 1}})
		}
		trees[i] = made(t, p)
		take(t, trees[i], l[1])
		wantNot(t, "none of the known ones", trees[i], l[2], always, api.ErrCheck)
	}
	if kept := int64(heap()) - int64(before); kept > 1<<20 {
		t.Errorf("%d bytes are kept", kept)
	}
	runtime.KeepAlive(trees)
}

func heap() uint64 {
	runtime.GC()
	var m runtime.MemStats
	runtime.ReadMemStats(&m)
	return m.HeapAlloc
}

// Calls on a long way, and many checks at one height, end soon.
func TestLong(t *testing.T) {
	l := way(api.MaxCount)
	p := params(l[0])
	for n := range 1 << 18 {
		p.Checks = append(p.Checks, api.Check{Height: -1, ID: api.Hash{byte(n), byte(n >> 8), byte(n >> 16)}})
	}
	begin := time.Now()
	x := made(t, p)
	for i, h := range l[1:] {
		if taken, e := x.Accept(h, always); !taken || e != api.OK {
			t.Fatal(i, taken, e)
		}
		tip := x.Tip()
		if id, ok := x.At(tip, i/2); !ok || id == tip && i > 0 {
			t.Fatal(i)
		}
		if id, ok := x.Fork(l[1].Prev, tip); !ok || id != l[1].Prev {
			t.Fatal(i)
		}
		if len(x.Locator()) > 40 {
			t.Fatal(i)
		}
	}
	if took := time.Since(begin); took > 20*time.Second {
		t.Errorf("%v", took)
	}
}
