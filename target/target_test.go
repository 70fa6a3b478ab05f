package target_test

import (
	"math"
	"math/big"
	"math/rand"
	"slices"
	"testing"

	"sporran/api"
	"sporran/target"
	"sporran/wide"
)

const (
	full  = math.MaxUint64
	limit = 0x207fffff
)

// whole is 2^256.
func whole() *big.Int { return new(big.Int).Lsh(big.NewInt(1), 256) }

func toBig(a api.Wide) *big.Int {
	n := new(big.Int)
	for _, x := range slices.Backward(a[:]) {
		n.Lsh(n, 64).Or(n, new(big.Int).SetUint64(x))
	}
	return n
}

// fromBig is a number below 2^256.
func fromBig(n *big.Int) api.Wide {
	var a api.Wide
	rest := new(big.Int).Set(n)
	for i := range a {
		a[i] = new(big.Int).And(rest, new(big.Int).SetUint64(full)).Uint64()
		rest.Rsh(rest, 64)
	}
	return a
}

// expand is what bits say by the document's words, and whether they are a target.
func expand(bits uint32) (*big.Int, bool) {
	e, m := int64(bits>>24), int64(bits&0x7fffff)
	n := new(big.Int).Exp(big.NewInt(256), big.NewInt(e), nil)
	n.Mul(n, big.NewInt(m)).Quo(n, big.NewInt(256*256*256))
	return n, bits&0x800000 == 0 && n.Sign() > 0 && n.Cmp(whole()) < 0
}

// compact goes by a number's bytes.
func compact(n *big.Int) uint32 {
	b := n.Bytes()
	if len(b) == 0 {
		return 0
	}
	if b[0] >= 0x80 {
		b = append([]byte{0}, b...)
	}
	three := append(slices.Clone(b), 0, 0)[:3]
	return uint32(len(b))<<24 | uint32(three[0])<<16 | uint32(three[1])<<8 | uint32(three[2])
}

// parts are bits' low 24 with edges of every byte, the sign set and not.
func parts() []uint32 {
	l := []uint32{
		0, 1, 2, 0x7f, 0x80, 0xff, 0x100, 0x101, 0x7fff, 0x8000, 0xffff, 0x10000, 0x10001,
		0x12345, 0x123456, 0x3fffff, 0x400000, 0x7fffff,
	}
	r := rand.New(rand.NewSource(1))
	for range 30 {
		l = append(l, r.Uint32()&0x7fffff>>r.Intn(23))
	}
	for _, m := range slices.Clone(l) {
		l = append(l, m|0x800000)
	}
	return l
}

// eachBits hands out all e with the parts.
func eachBits(f func(bits uint32)) {
	for e := range uint32(256) {
		for _, m := range parts() {
			f(e<<24 | m)
		}
	}
}

// P4.1: every e, and the edges where a target ends.
func TestExpand(t *testing.T) {
	for _, x := range []struct {
		bits   uint32
		target api.Wide
	}{
		{0x1d00ffff, api.Wide{0, 0, 0, 0xffff0000}},
		{0x207fffff, api.Wide{0, 0, 0, 0x7fffff0000000000}},
		{0x03000001, api.Wide{1}},
		{0x03123456, api.Wide{0x123456}},
		{0x04123456, api.Wide{0x12345600}},
		{0x02123456, api.Wide{0x1234}},
		{0x02000100, api.Wide{1}},
		{0x01123456, api.Wide{0x12}},
		{0x01010000, api.Wide{1}},
		{0x0b000001, api.Wide{0, 1}},
		{0x207fffff, api.Wide{0, 0, 0, 0x7fffff << 40}},
		{0x2100ffff, api.Wide{0, 0, 0, 0xffff << 48}},
		{0x220000ff, api.Wide{0, 0, 0, 0xff << 56}},
		{0x22000001, api.Wide{0, 0, 0, 1 << 56}},
	} {
		if got, e := target.Expand(x.bits); got != x.target || e != api.OK {
			t.Errorf("Expand(%08x): %x %v, not %x", x.bits, got, e, x.target)
		}
	}
}

// noTargets are bits of every kind that is none.
var noTargets = []uint32{
	0, 0x007fffff, 0x0100ffff, 0x01003456, 0x020000ff, 0x03000000, 0x1d000000, 0xff000000,
	0x00800000, 0x01fedcba, 0x04923456, 0x1d80ffff, 0x1dffffff, 0x03800000, 0x03800001, 0x20ffffff,
	0x21010000, 0x217fffff, 0x22000100, 0x2200ffff, 0x227fffff, 0x23000001, 0x23000100, 0x24000001,
	0x43000001, 0xff000001, 0xff7fffff, math.MaxUint32,
}

func TestExpandNone(t *testing.T) {
	for _, bits := range noTargets {
		if got, e := target.Expand(bits); got != (api.Wide{}) || e != api.ErrBits {
			t.Errorf("Expand(%08x): %x %v", bits, got, e)
		}
	}
}

func TestExpandAll(t *testing.T) {
	eachBits(func(bits uint32) {
		n, ok := expand(bits)
		got, e := target.Expand(bits)
		if ok && (e != api.OK || toBig(got).Cmp(n) != 0) || !ok && (e != api.ErrBits || got != api.Wide{}) {
			t.Errorf("Expand(%08x): %x %v, not %x %v", bits, got, e, n, ok)
		}
	})
}

// P4.1: few bytes, and highest bytes that would be the sign.
func TestCompact(t *testing.T) {
	for _, x := range []struct {
		target api.Wide
		bits   uint32
	}{
		{api.Wide{}, 0},
		{api.Wide{1}, 0x01010000},
		{api.Wide{0x7f}, 0x017f0000},
		{api.Wide{0x80}, 0x02008000},
		{api.Wide{0xff}, 0x0200ff00},
		{api.Wide{0x100}, 0x02010000},
		{api.Wide{0x7fff}, 0x027fff00},
		{api.Wide{0x8000}, 0x03008000},
		{api.Wide{0xffff}, 0x0300ffff},
		{api.Wide{0x123456}, 0x03123456},
		{api.Wide{0x7fffff}, 0x037fffff},
		{api.Wide{0x800000}, 0x04008000},
		{api.Wide{0xffffff}, 0x0400ffff},
		{api.Wide{0x12345678}, 0x04123456},
		{api.Wide{0, 0x80}, 0x0a008000},
		{api.Wide{0, 0, 0, 0xffff0000}, 0x1d00ffff},
		{api.Wide{full, full, full, 1<<63 - 1}, 0x207fffff},
		{api.Wide{0, 0, 0, 1 << 63}, 0x21008000},
		{api.Wide{full, full, full, full}, 0x2100ffff},
	} {
		if got := target.Compact(x.target); got != x.bits {
			t.Errorf("Compact(%x): %08x, not %08x", x.target, got, x.bits)
		}
	}
}

func TestCompactAll(t *testing.T) {
	r := rand.New(rand.NewSource(2))
	for n := range 257 {
		for range 50 {
			x := toBig(api.Wide{r.Uint64(), r.Uint64(), r.Uint64(), r.Uint64()})
			x.Rsh(x, uint(256-n))
			if got, want := target.Compact(fromBig(x)), compact(x); got != want {
				t.Errorf("Compact(%x): %08x, not %08x", x, got, want)
			}
		}
	}
}

// P4.2: 2^256 / (t + 1).
func TestWork(t *testing.T) {
	for _, x := range []struct {
		bits uint32
		work api.Wide
	}{
		{0x1d00ffff, api.Wide{0x100010001}},
		{0x207fffff, api.Wide{2}},
		{0x220000ff, api.Wide{1}},
		{0x03000001, api.Wide{0, 0, 0, 1 << 63}},
		{0x03000003, api.Wide{0, 0, 0, 1 << 62}},
		{0x037fffff, api.Wide{0, 0, 0, 1 << 41}},
		{0x0300ffff, api.Wide{0, 0, 0, 1 << 48}},
	} {
		if got, e := target.Work(x.bits); got != x.work || e != api.OK {
			t.Errorf("Work(%08x): %x %v, not %x", x.bits, got, e, x.work)
		}
	}
}

func TestWorkAll(t *testing.T) {
	eachBits(func(bits uint32) {
		n, ok := expand(bits)
		got, e := target.Work(bits)
		if !ok {
			if e != api.ErrBits || got != (api.Wide{}) {
				t.Errorf("Work(%08x): %x %v", bits, got, e)
			}
			return
		}
		want := new(big.Int).Quo(whole(), n.Add(n, big.NewInt(1)))
		if e != api.OK || toBig(got).Cmp(want) != 0 {
			t.Errorf("Work(%08x): %x %v, not %x", bits, got, e, want)
		}
	})
}

func TestWorkNone(t *testing.T) {
	for _, bits := range noTargets {
		if got, e := target.Work(bits); got != (api.Wide{}) || e != api.ErrBits {
			t.Errorf("Work(%08x): %x %v", bits, got, e)
		}
	}
}

// P4.2: a hash that is the target meets it, the next one does not.
func TestMeets(t *testing.T) {
	eachBits(func(bits uint32) {
		n, ok := expand(bits)
		if !ok {
			if target.Meets(api.Hash{}, bits) {
				t.Errorf("%08x are no target, and met", bits)
			}
			return
		}
		same := fromBig(n)
		below, _ := wide.Sub(same, api.Wide{1})
		above, _ := wide.Add(same, api.Wide{1})
		if !target.Meets(wide.Bytes(same), bits) || !target.Meets(wide.Bytes(below), bits) || !target.Meets(api.Hash{}, bits) {
			t.Errorf("%08x are not met", bits)
		}
		if target.Meets(wide.Bytes(above), bits) {
			t.Errorf("%08x are met by the next one", bits)
		}
	})
}

func TestMeetsHash(t *testing.T) {
	if !target.Meets(api.Hash{27: 0xff, 26: 0xfe, 25: 0xff, 0: 1}, 0x1d00ffff) {
		t.Error("a low one")
	}
	if target.Meets(api.Hash{27: 0xff, 26: 0xff, 0: 1}, 0x1d00ffff) || target.Meets(api.Hash{31: 1}, 0x1d00ffff) {
		t.Error("a high one: the last byte is the highest")
	}
	for _, bits := range noTargets {
		if target.Meets(api.Hash{}, bits) {
			t.Errorf("%08x are no target, and met", bits)
		}
	}
}

// P4.3: ordinary spans, and those beyond a fourth and four times.
func TestNext(t *testing.T) {
	for _, x := range []struct {
		bits, limit   uint32
		seconds, want int
		next          uint32
	}{
		{0x1d00ffff, limit, 1200, 1200, 0x1d00ffff},
		{0x1d00ffff, limit, 2400, 1200, 0x1d01fffe},
		{0x1d00ffff, limit, 600, 1200, 0x1c7fff80},
		{0x1d00ffff, limit, 4800, 1200, 0x1d03fffc},
		{0x1d00ffff, limit, 4801, 1200, 0x1d03fffc},
		{0x1d00ffff, limit, math.MaxInt, 1200, 0x1d03fffc},
		{0x1d00ffff, limit, 300, 1200, 0x1c3fffc0},
		{0x1d00ffff, limit, 299, 1200, 0x1c3fffc0},
		{0x1d00ffff, limit, 0, 1200, 0x1c3fffc0},
		{0x1d00ffff, limit, -1200, 1200, 0x1c3fffc0},
		{0x1d00ffff, limit, math.MinInt, 1200, 0x1c3fffc0},
		{0x1d00ffff, 0x1d00ffff, 2400, 1200, 0x1d00ffff},
		{0x1d00ffff, 0x1c7fffff, 1200, 1200, 0x1c7fffff},
		{0x1d00ffff, 0x1d00ffff, 1022578, 1209600, 0x1d00d86a}, // spans of the real chain
		{0x1c05a3f4, 0x1d00ffff, 289434, 1209600, 0x1c0168fd},
		{0x1c387f6f, 0x1d00ffff, 6048000, 1209600, 0x1d00e1fd},
		{0x03000700, limit, 1, 7, 0x02010000},      // a fourth of 7 is 1
		{0x03000700, limit, 0, 7, 0x02010000},      // 1, not the true fourth
		{0x03000700, limit, 28, 7, 0x021c0000},     // the most of 7
		{0x03000700, limit, 29, 7, 0x021c0000},     // beyond it
		{0x03000004, limit, 1, 4, 0x01010000},      // the least want
		{0x03000004, limit, 16, 4, 0x01100000},     //
		{0x03000001, limit, 1, 4, 0x01010000},      // at least 1
		{0x03000003, limit, 0, 4, 0x01010000},      // the whole part of it is 0
		{0x03000004, 0x03000001, 4, 4, 0x01010000}, // at most the limit's target
		{0x03000004, limit, 1 << 30, 1 << 30, 0x01040000},
		{0x03000004, limit, math.MaxInt, 1 << 30, 0x01100000},
		{0x03000004, limit, math.MinInt, 1 << 30, 0x01010000},
		{limit, limit, 1, 4, 0x201fffff},
	} {
		if got, e := target.Next(x.bits, x.limit, x.seconds, x.want); got != x.next || e != api.OK {
			t.Errorf("Next(%08x, %08x, %d, %d): %08x %v, not %08x", x.bits, x.limit, x.seconds, x.want, got, e, x.next)
		}
	}
}

// P4.3: where the product goes over, all bits are divided.
func TestNextOver(t *testing.T) {
	for _, x := range []struct {
		bits, limit   uint32
		seconds, want int
		next          uint32
	}{
		{limit, limit, 2, 4, 0x203fffff},             // just not over
		{limit, limit, 3, 4, 0x203fffff},             // just over
		{limit, limit, 16, 4, 0x203fffff},            //
		{limit, limit, 1 << 30, 1 << 30, 0x1d03ffff}, // an even span, yet a harder target
		{0x220000ff, 0x220000ff, 1, 4, 0x203fc000},   // as hard as 1 makes it
		{0x220000ff, 0x220000ff, 2, 4, 0x203fffff},   // over by a bit
		{0x220000ff, 0x220000ff, 5000, 10000, 0x1f068db8},
		{0x220000ff, 0x03000001, 16, 4, 0x01010000},
	} {
		if got, e := target.Next(x.bits, x.limit, x.seconds, x.want); got != x.next || e != api.OK {
			t.Errorf("Next(%08x, %08x, %d, %d): %08x %v, not %08x", x.bits, x.limit, x.seconds, x.want, got, e, x.next)
		}
	}
}

// next is Next by the document's words, for arguments that are right.
func next(t, top *big.Int, seconds, want int) uint32 {
	span := big.NewInt(int64(min(max(seconds, want/4), want*4)))
	n := span.Mul(span, t)
	if n.Cmp(whole()) >= 0 {
		n.Sub(whole(), big.NewInt(1))
	}
	n.Quo(n, big.NewInt(int64(want)))
	if n.Sign() == 0 {
		n.SetInt64(1)
	}
	if n.Cmp(top) > 0 {
		n = top
	}
	return compact(n)
}

func TestNextAll(t *testing.T) {
	wants := []int{4, 5, 6, 7, 8, 600, 1200, 1209600, 1<<30 - 1, 1 << 30}
	r := rand.New(rand.NewSource(3))
	eachBits(func(bits uint32) {
		top := []uint32{bits, limit, 0x1d00ffff, 0x220000ff, 0x03000001, r.Uint32() % 0x23000000}[r.Intn(6)]
		want := wants[r.Intn(len(wants))]
		seconds := []int{want, want / 4, want/4 - 1, want/4 + 1, want * 4, want*4 - 1, want*4 + 1, r.Intn(want * 5), -want}[r.Intn(9)]
		n, ok := expand(bits)
		m, topOk := expand(top)
		got, e := target.Next(bits, top, seconds, want)
		if !ok || !topOk {
			if e != api.ErrBits || got != 0 {
				t.Errorf("Next(%08x, %08x, %d, %d): %08x %v", bits, top, seconds, want, got, e)
			}
			return
		}
		if x := next(n, m, seconds, want); got != x || e != api.OK {
			t.Errorf("Next(%08x, %08x, %d, %d): %08x %v, not %08x", bits, top, seconds, want, got, e, x)
		}
	})
}

// wrongWants are below 4, and above 2^30.
var wrongWants = []int{3, 2, 1, 0, -1, -4, -1200, math.MinInt, 1<<30 + 1, 1 << 31, math.MaxInt}

func TestNextWrongWant(t *testing.T) {
	for _, want := range wrongWants {
		for _, seconds := range []int{0, 1, want, math.MinInt, math.MaxInt} {
			if got, e := target.Next(0x1d00ffff, limit, seconds, want); got != 0 || e != api.ErrArg {
				t.Errorf("%d of %d: %08x %v", seconds, want, got, e)
			}
		}
	}
}

// P4.3: where bits and want are both wrong, the bits come first.
func TestNextWrongBits(t *testing.T) {
	for _, bits := range noTargets {
		for _, want := range append([]int{4, 1200, 1 << 30}, wrongWants...) {
			if got, e := target.Next(bits, limit, 1200, want); got != 0 || e != api.ErrBits {
				t.Errorf("bits %08x, want %d: %08x %v", bits, want, got, e)
			}
			if got, e := target.Next(limit, bits, 1200, want); got != 0 || e != api.ErrBits {
				t.Errorf("limit %08x, want %d: %08x %v", bits, want, got, e)
			}
			if got, e := target.Next(bits, bits, 1200, want); got != 0 || e != api.ErrBits {
				t.Errorf("both %08x, want %d: %08x %v", bits, want, got, e)
			}
		}
	}
}

// P4.4: Expand of Compact of Expand is Expand, and Compact's bits say themselves.
func TestCompactBack(t *testing.T) {
	eachBits(func(bits uint32) {
		first, e := target.Expand(bits)
		if e != api.OK {
			return
		}
		short := target.Compact(first)
		second, e := target.Expand(short)
		if second != first || e != api.OK || target.Compact(second) != short {
			t.Errorf("%08x: %x, by %08x %x %v", bits, first, short, second, e)
		}
	})
}

// P4.5: along rising targets work does not rise.
func TestWorkFalls(t *testing.T) {
	var l []api.Wide
	work := map[api.Wide]api.Wide{}
	eachBits(func(bits uint32) {
		if x, e := target.Expand(bits); e == api.OK {
			l = append(l, x)
			work[x], _ = target.Work(bits)
		}
	})
	slices.SortFunc(l, wide.Compare)
	for i := 1; i < len(l); i++ {
		if wide.Compare(work[l[i-1]], work[l[i]]) < 0 {
			t.Errorf("%x has %x, %x has %x", l[i-1], work[l[i-1]], l[i], work[l[i]])
		}
	}
	if len(l) < 1000 {
		t.Errorf("only %d targets", len(l))
	}
}

func BenchmarkWork(b *testing.B) {
	for range b.N {
		target.Work(0x1a05db8b)
	}
}
