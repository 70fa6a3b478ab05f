package wide_test

import (
	"math"
	"math/big"
	"math/rand"
	"slices"
	"testing"

	"sporran/api"
	"sporran/wide"
)

const full = math.MaxUint64

var (
	nought = api.Wide{}
	one    = api.Wide{1}
	all    = api.Wide{full, full, full, full}
)

// whole is 2^256.
func whole() *big.Int { return new(big.Int).Lsh(big.NewInt(1), 256) }

// toBig and fromBig go by words, so that Of and Bytes are not leant on.
func toBig(a api.Wide) *big.Int {
	n := new(big.Int)
	for _, x := range slices.Backward(a[:]) {
		n.Lsh(n, 64).Or(n, new(big.Int).SetUint64(x))
	}
	return n
}

// fromBig is a number modulo 2^256, and whether that is another one.
func fromBig(n *big.Int) (api.Wide, bool) {
	rest := new(big.Int).Mod(n, whole())
	over := rest.Cmp(n) != 0
	var a api.Wide
	for i := range a {
		a[i] = new(big.Int).And(rest, new(big.Int).SetUint64(full)).Uint64()
		rest.Rsh(rest, 64)
	}
	return a, over
}

// numbers are some at the ends of their words, and some from a seed that stays.
func numbers() []api.Wide {
	l := []api.Wide{
		nought, one, {2}, {3}, {10}, all,
		{full}, {full - 1}, {1 << 63}, {1<<63 - 1}, {1 << 32}, {1<<32 - 1},
		{0, 1}, {1, 1}, {7, 1}, {full, 1}, {0, full}, {full, full}, {0, 1 << 63},
		{0, 0, 1}, {full, full, 1}, {0, 0, full}, {full, full, full}, {1, 0, 1}, {0, 0, 1 << 63},
		{0, 0, 0, 1}, {1, 0, 0, 1}, {0, 0, 0, full}, {full, full, full, 1}, {0, 0, 0, 1 << 63},
		{1, 0, 0, 1 << 63}, {full, full, full, 1<<63 - 1}, {full - 1, full, full, full},
		{full, 0, full, 0}, {0, full, 0, full}, {full, 0, 0, full}, {0, full, full, 0},
		{0, 0, 0, 0xffff0000}, {784931, 0, 5, 0},
	}
	r := rand.New(rand.NewSource(1))
	for range 40 {
		l = append(l, anyNumber(r))
	}
	return l
}

// anyNumber has any number of bits, else most products would go over.
func anyNumber(r *rand.Rand) api.Wide {
	n := toBig(api.Wide{r.Uint64(), r.Uint64(), r.Uint64(), r.Uint64()})
	a, _ := fromBig(n.Rsh(n, uint(r.Intn(257))))
	return a
}

// eachPair hands out all pairs of the numbers, and some thousands from a seed that stays.
func eachPair(f func(a, b api.Wide)) {
	l := numbers()
	for _, a := range l {
		for _, b := range l {
			f(a, b)
		}
	}
	r := rand.New(rand.NewSource(2))
	for range 5000 {
		f(anyNumber(r), anyNumber(r))
	}
}

// eachThree hands out some thousands of threes.
func eachThree(f func(a, b, c api.Wide)) {
	l := numbers()
	r := rand.New(rand.NewSource(3))
	for range 20000 {
		f(l[r.Intn(len(l))], l[r.Intn(len(l))], l[r.Intn(len(l))])
	}
}

// number is an answer's number alone.
func number(a api.Wide, _ bool) api.Wide { return a }

// P3.1: carries and borrows through all four words.
func TestAddCarries(t *testing.T) {
	for _, x := range []struct {
		a, b, sum api.Wide
		over      bool
	}{
		{nought, nought, nought, false},
		{one, api.Wide{2}, api.Wide{3}, false},
		{api.Wide{full}, one, api.Wide{0, 1}, false},
		{api.Wide{full, full}, one, api.Wide{0, 0, 1}, false},
		{api.Wide{full, full, full}, one, api.Wide{0, 0, 0, 1}, false},
		{all, nought, all, false},
		{all, one, nought, true},
		{one, all, nought, true},
		{all, all, api.Wide{full - 1, full, full, full}, true},
		{api.Wide{0, 0, 0, 1 << 63}, api.Wide{0, 0, 0, 1 << 63}, nought, true},
		{api.Wide{0, 0, 0, 1 << 63}, api.Wide{full, full, full, 1<<63 - 1}, all, false},
	} {
		if sum, over := wide.Add(x.a, x.b); sum != x.sum || over != x.over {
			t.Errorf("Add(%x, %x): %x %v", x.a, x.b, sum, over)
		}
	}
}

func TestSubBorrows(t *testing.T) {
	for _, x := range []struct {
		a, b, rest api.Wide
		under      bool
	}{
		{nought, nought, nought, false},
		{api.Wide{3}, api.Wide{2}, one, false},
		{api.Wide{0, 1}, one, api.Wide{full}, false},
		{api.Wide{0, 0, 1}, one, api.Wide{full, full}, false},
		{api.Wide{0, 0, 0, 1}, one, api.Wide{full, full, full}, false},
		{all, all, nought, false},
		{all, nought, all, false},
		{nought, one, all, true},
		{nought, all, one, true},
		{one, api.Wide{2}, all, true},
		{api.Wide{0, 0, 0, 1}, api.Wide{1, 0, 0, 1}, all, true},
		{api.Wide{full, full, full}, api.Wide{0, 0, 0, 1}, all, true},
	} {
		if rest, under := wide.Sub(x.a, x.b); rest != x.rest || under != x.under {
			t.Errorf("Sub(%x, %x): %x %v", x.a, x.b, rest, under)
		}
	}
}

func TestMulOver(t *testing.T) {
	for _, x := range []struct {
		a, b, product api.Wide
		over          bool
	}{
		{all, nought, nought, false},
		{all, one, all, false},
		{all, api.Wide{2}, api.Wide{full - 1, full, full, full}, true},
		{all, all, one, true},
		{api.Wide{full}, api.Wide{full}, api.Wide{1, full - 1}, false},
		{api.Wide{full, full}, api.Wide{full, full}, api.Wide{1, 0, full - 1, full}, false},
		{api.Wide{0, 1}, api.Wide{0, 0, 3}, api.Wide{0, 0, 0, 3}, false},
		{api.Wide{0, 0, 1}, api.Wide{0, 0, 1}, nought, true},
		{api.Wide{0, 1}, api.Wide{0, 0, 0, 1}, nought, true},
		{api.Wide{0, 0, 0, 1}, api.Wide{0, 0, 0, 1}, nought, true},
		{api.Wide{0, 0, 0, 1 << 63}, api.Wide{2}, nought, true},
		{api.Wide{0, 0, 0, 1 << 62}, api.Wide{2}, api.Wide{0, 0, 0, 1 << 63}, false},
		{api.Wide{1, 1}, api.Wide{full, full, full}, api.Wide{full, full - 1, full, 0}, true},
		{api.Wide{3}, api.Wide{0x5555555555555555, 0x5555555555555555, 0x5555555555555555, 0x5555555555555555}, all, false},
	} {
		if product, over := wide.Mul(x.a, x.b); product != x.product || over != x.over {
			t.Errorf("Mul(%x, %x): %x %v", x.a, x.b, product, over)
		}
	}
}

func TestAddSubMul(t *testing.T) {
	eachPair(func(a, b api.Wide) {
		x, y := toBig(a), toBig(b)
		sum, sumOver := fromBig(new(big.Int).Add(x, y))
		if got, over := wide.Add(a, b); got != sum || over != sumOver {
			t.Errorf("Add(%x, %x): %x %v, not %x %v", a, b, got, over, sum, sumOver)
		}
		rest, restOver := fromBig(new(big.Int).Sub(x, y))
		if got, over := wide.Sub(a, b); got != rest || over != restOver {
			t.Errorf("Sub(%x, %x): %x %v, not %x %v", a, b, got, over, rest, restOver)
		}
		product, productOver := fromBig(new(big.Int).Mul(x, y))
		if got, over := wide.Mul(a, b); got != product || over != productOver {
			t.Errorf("Mul(%x, %x): %x %v, not %x %v", a, b, got, over, product, productOver)
		}
	})
}

// P3.2: by a greater number, by one word, by all four.
func TestDiv(t *testing.T) {
	for _, x := range []struct{ a, b, quotient, rest api.Wide }{
		{nought, one, nought, nought},
		{nought, all, nought, nought},
		{one, one, one, nought},
		{all, one, all, nought},
		{all, all, one, nought},
		{all, api.Wide{2}, api.Wide{full, full, full, 1<<63 - 1}, one},
		{all, api.Wide{full}, api.Wide{1, 1, 1, 1}, nought},
		{all, api.Wide{0, 0, 0, 1}, api.Wide{full}, api.Wide{full, full, full}},
		{all, api.Wide{0, 0, 0, full}, one, api.Wide{full, full, full}},
		{all, api.Wide{0, 0, 0, 1 << 63}, one, api.Wide{full, full, full, 1<<63 - 1}},
		{api.Wide{full - 1, full, full, full}, all, nought, api.Wide{full - 1, full, full, full}},
		{api.Wide{2}, api.Wide{3}, nought, api.Wide{2}},
		{api.Wide{full}, api.Wide{0, 1}, nought, api.Wide{full}},
		{api.Wide{5, 6, 7}, api.Wide{0, 0, 0, 1}, nought, api.Wide{5, 6, 7}},
		{api.Wide{5, 6, 7, 8}, api.Wide{5, 6, 7, 8}, one, nought},
		{api.Wide{7, 1}, api.Wide{10}, api.Wide{1844674407370955162}, api.Wide{3}},
	} {
		quotient, rest, e := wide.Div(x.a, x.b)
		if e != api.OK || quotient != x.quotient || rest != x.rest {
			t.Errorf("Div(%x, %x): %x %x %v", x.a, x.b, quotient, rest, e)
		}
	}
}

func TestDivByNought(t *testing.T) {
	for _, a := range numbers() {
		if quotient, rest, e := wide.Div(a, nought); e != api.ErrZero || quotient != nought || rest != nought {
			t.Errorf("Div(%x, 0): %x %x %v", a, quotient, rest, e)
		}
	}
}

func TestDivAll(t *testing.T) {
	eachPair(func(a, b api.Wide) {
		if b == nought {
			return
		}
		q, r := new(big.Int).QuoRem(toBig(a), toBig(b), new(big.Int))
		quotient, rest, e := wide.Div(a, b)
		if e != api.OK || toBig(quotient).Cmp(q) != 0 || toBig(rest).Cmp(r) != 0 {
			t.Errorf("Div(%x, %x): %x %x %v, not %x %x", a, b, quotient, rest, e, q, r)
		}
	})
}

// P3.3: each word decides where those above it are the same, whatever those below say.
func TestCompare(t *testing.T) {
	for i := range 4 {
		low, high := api.Wide{9, 9, 9, 9}, api.Wide{9, 9, 9, 9}
		for j := range i {
			low[j], high[j] = full, 0
		}
		low[i], high[i] = 1<<63-1, 1<<63 // words have no sign
		if wide.Compare(low, high) != -1 || wide.Compare(high, low) != 1 {
			t.Errorf("word %d: %d %d", i, wide.Compare(low, high), wide.Compare(high, low))
		}
	}
	eachPair(func(a, b api.Wide) {
		if got, want := wide.Compare(a, b), toBig(a).Cmp(toBig(b)); got != want {
			t.Errorf("Compare(%x, %x): %d, not %d", a, b, got, want)
		}
		if wide.Compare(a, a) != 0 {
			t.Errorf("Compare(%x, itself): %d", a, wide.Compare(a, a))
		}
	})
}

// P3.3: by every n from below 0 to above 256.
func TestShifts(t *testing.T) {
	for _, a := range numbers() {
		for n := -70; n <= 400; n++ {
			by := uint(max(n, 0))
			left, _ := fromBig(new(big.Int).Lsh(toBig(a), by))
			if got := wide.Left(a, n); got != left {
				t.Errorf("Left(%x, %d): %x, not %x", a, n, got, left)
			}
			right, _ := fromBig(new(big.Int).Rsh(toBig(a), by))
			if got := wide.Right(a, n); got != right {
				t.Errorf("Right(%x, %d): %x, not %x", a, n, got, right)
			}
		}
	}
}

func TestShiftEdges(t *testing.T) {
	a := api.Wide{1, 2, 3, 1 << 63}
	for _, n := range []int{0, -1, -64, -256, math.MinInt32, math.MinInt, math.MinInt + 1} {
		if wide.Left(a, n) != a || wide.Right(a, n) != a {
			t.Errorf("by %d: %x %x", n, wide.Left(a, n), wide.Right(a, n))
		}
	}
	if wide.Left(a, 64) != (api.Wide{0, 1, 2, 3}) || wide.Right(a, 64) != (api.Wide{2, 3, 1 << 63}) {
		t.Errorf("by 64: %x %x", wide.Left(a, 64), wide.Right(a, 64))
	}
	if wide.Left(a, 255) != (api.Wide{0, 0, 0, 1 << 63}) || wide.Right(a, 255) != one {
		t.Errorf("by 255: %x %x", wide.Left(a, 255), wide.Right(a, 255))
	}
	for _, n := range []int{256, 257, 319, 320, 1 << 20, math.MaxInt32, math.MaxInt - 1, math.MaxInt} {
		if wide.Left(all, n) != nought || wide.Right(all, n) != nought {
			t.Errorf("by %d: %x %x", n, wide.Left(all, n), wide.Right(all, n))
		}
	}
}

func TestBits(t *testing.T) {
	if wide.Bits(nought) != 0 || wide.Bits(all) != 256 {
		t.Errorf("%d %d", wide.Bits(nought), wide.Bits(all))
	}
	for n := 1; n <= 256; n++ {
		low, _ := fromBig(new(big.Int).Lsh(big.NewInt(1), uint(n-1)))
		high, _ := fromBig(new(big.Int).Sub(new(big.Int).Lsh(big.NewInt(1), uint(n)), big.NewInt(1)))
		if wide.Bits(low) != n || wide.Bits(high) != n {
			t.Errorf("%d: %d %d", n, wide.Bits(low), wide.Bits(high))
		}
	}
}

// P3.4: byte 8i + j of a hash is byte j of word i.
func TestBytes(t *testing.T) {
	var h api.Hash
	for i := range h {
		h[i] = byte(i + 1)
	}
	a := api.Wide{0x0807060504030201, 0x100f0e0d0c0b0a09, 0x1817161514131211, 0x201f1e1d1c1b1a19}
	if wide.Of(h) != a || wide.Bytes(a) != h {
		t.Errorf("%x %x", wide.Of(h), wide.Bytes(a))
	}
	if wide.Of(api.Hash{}) != nought || wide.Bytes(nought) != (api.Hash{}) {
		t.Errorf("of nothing: %x %x", wide.Of(api.Hash{}), wide.Bytes(nought))
	}
	for i := range h {
		var single api.Hash
		single[i] = 0x80
		want, _ := fromBig(new(big.Int).Lsh(big.NewInt(0x80), uint(8*i)))
		if wide.Of(single) != want || wide.Bytes(want) != single {
			t.Errorf("byte %d: %x %x", i, wide.Of(single), wide.Bytes(want))
		}
	}
}

// P3.5: order and brackets play no part.
func TestRing(t *testing.T) {
	eachThree(func(a, b, c api.Wide) {
		if number(wide.Add(a, b)) != number(wide.Add(b, a)) || number(wide.Mul(a, b)) != number(wide.Mul(b, a)) {
			t.Errorf("order: %x %x", a, b)
		}
		ab, bc := number(wide.Add(a, b)), number(wide.Add(b, c))
		if number(wide.Add(ab, c)) != number(wide.Add(a, bc)) {
			t.Errorf("brackets of a sum: %x %x %x", a, b, c)
		}
		left, right := number(wide.Mul(a, b)), number(wide.Mul(b, c))
		if number(wide.Mul(left, c)) != number(wide.Mul(a, right)) {
			t.Errorf("brackets of a product: %x %x %x", a, b, c)
		}
		ac := number(wide.Mul(a, c))
		if number(wide.Mul(a, bc)) != number(wide.Add(left, ac)) {
			t.Errorf("a product of a sum: %x %x %x", a, b, c)
		}
		if number(wide.Sub(ab, b)) != a {
			t.Errorf("a difference of a sum: %x %x", a, b)
		}
	})
}

// P3.5: whether it goes over does not hang on order either.
func TestOverOrder(t *testing.T) {
	eachPair(func(a, b api.Wide) {
		_, ab := wide.Add(a, b)
		_, ba := wide.Add(b, a)
		_, times := wide.Mul(a, b)
		_, turned := wide.Mul(b, a)
		if ab != ba || times != turned {
			t.Errorf("%x %x: %v %v %v %v", a, b, ab, ba, times, turned)
		}
	})
}

// P3.6: quotient and rest make the number again, without going over.
func TestDivBack(t *testing.T) {
	eachPair(func(a, b api.Wide) {
		if b == nought {
			return
		}
		quotient, rest, _ := wide.Div(a, b)
		product, over := wide.Mul(quotient, b)
		back, more := wide.Add(product, rest)
		if back != a || over || more || wide.Compare(rest, b) >= 0 {
			t.Errorf("%x by %x: %x, rest %x", a, b, quotient, rest)
		}
	})
}

// P3.7: shifts are products and quotients.
func TestShiftPowers(t *testing.T) {
	for _, a := range numbers() {
		for n := range 256 {
			power := wide.Left(one, n)
			quotient, _, e := wide.Div(a, power)
			if e != api.OK || wide.Right(a, n) != quotient || wide.Left(a, n) != number(wide.Mul(a, power)) {
				t.Errorf("%x by %d: %x %x %v", a, n, wide.Left(a, n), wide.Right(a, n), e)
			}
		}
	}
}

// P3.7: Of Bytes is the number.
func TestBytesBack(t *testing.T) {
	for _, a := range numbers() {
		if wide.Of(wide.Bytes(a)) != a {
			t.Errorf("%x: %x", a, wide.Of(wide.Bytes(a)))
		}
	}
}

func BenchmarkMul(b *testing.B) {
	for range b.N {
		wide.Mul(all, all)
	}
}

func BenchmarkDiv(b *testing.B) {
	for range b.N {
		wide.Div(all, api.Wide{1209600})
	}
}
