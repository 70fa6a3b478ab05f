package rice_test

import (
	"bytes"
	"fmt"
	"math"
	"math/rand"
	"slices"
	"strings"
	"testing"

	"sporran/api"
	"sporran/rice"
)

// pack is bits, written as a text of 0 and 1, as bytes; noughts fill the last one.
func pack(text string) []byte {
	b := make([]byte, (len(text)+7)/8)
	for i := range text {
		if text[i] == '1' {
			b[i/8] |= 0x80 >> (i % 8)
		}
	}
	return b
}

// low is the lowest bits of a number as a text.
func low(n uint64, count int) string {
	all := fmt.Sprintf("%064b", n)
	return all[64-count:]
}

// code is what the chapter says that a code is, as a text.
func code(n uint64, rest int) string {
	ones := n / uint64(math.Pow(2, float64(rest)))
	return strings.Repeat("1", int(ones)) + "0" + low(n, rest)
}

// numbers are some at the ends of their range, about its powers of two, and in the middle of it.
func numbers() []uint64 {
	l := []uint64{0, 1, 2, 3, 9, 0x123456789abcdef0, math.MaxUint64 - 1, math.MaxUint64}
	for i := 2; i < 64; i++ {
		l = append(l, 1<<i-1, 1<<i, 1<<i+1)
	}
	random := rand.New(rand.NewSource(11))
	for range 30 {
		l = append(l, random.Uint64(), random.Uint64()>>20, random.Uint64()>>40)
	}
	return l
}

// writer is one that has these bits already.
func writer(text string) *rice.Writer {
	w := rice.New()
	for i := range text {
		w.Bit(text[i] == '1')
	}
	return w
}

func wantBits(t *testing.T, name string, w *rice.Writer, text string) {
	t.Helper()
	if got := w.Bytes(); !bytes.Equal(got, pack(text)) {
		t.Errorf("%s: %.40x, not %.40x", name, got, pack(text))
	}
}

// heads are bits that stand ahead, of as many kinds as a byte has places.
var heads = []string{"", "1", "01", "110", "0101", "11111", "000000", "1010101", "11111111", "000000001"}

// wrongCounts are out of 0 to 64, wrongRests of 0 to 32.
var (
	wrongCounts = []int{-1, 65, 66, 128, 1 << 32, -64, math.MinInt, math.MaxInt}
	wrongRests  = []int{-1, 33, 34, 64, 65, 1 << 32, -32, math.MinInt, math.MaxInt}
)

// P11.1: nothing at first; then bit by bit, the highest of each byte first, noughts at the end.
func TestWriteBit(t *testing.T) {
	w := rice.New()
	wantBits(t, "New", w, "")
	random := rand.New(rand.NewSource(1))
	text := ""
	for range 100 {
		bit := "01"[random.Intn(2):][:1]
		if e := w.Bit(bit == "1"); e != api.OK {
			t.Fatal(e)
		}
		text += bit
		wantBits(t, text, w, text)
	}
}

// P11.1: the lowest bits of a number, whatever stands above them, behind bits of all numbers modulo eight.
func TestWriteBits(t *testing.T) {
	for _, n := range numbers() {
		for count := range 65 {
			for _, head := range heads {
				w := writer(head)
				if e := w.Bits(n, count); e != api.OK {
					t.Fatalf("Bits(%x, %d): %v", n, count, e)
				}
				wantBits(t, fmt.Sprintf("%s and Bits(%x, %d)", head, n, count), w, head+low(n, count))
				w.Bit(true)
				wantBits(t, fmt.Sprintf("%s, Bits(%x, %d) and a one", head, n, count), w, head+low(n, count)+"1")
			}
		}
	}
}

// P11.1: a count that is not 0 to 64 writes nothing.
func TestWriteBitsArg(t *testing.T) {
	for _, count := range wrongCounts {
		for _, n := range []uint64{0, 1, math.MaxUint64} {
			w := writer("101")
			if e := w.Bits(n, count); e != api.ErrArg {
				t.Errorf("Bits(%x, %d): %v", n, count, e)
			}
			w.Bit(true)
			wantBits(t, "behind ErrArg", w, "1011")
		}
	}
}

// P11.1: codes of all rests.
func TestWriteRice(t *testing.T) {
	for _, head := range heads {
		w := writer(head)
		if e := w.Rice(9, 2); e != api.OK {
			t.Fatal(e)
		}
		wantBits(t, head+" and the example", w, head+"11001")
	}
	for _, n := range numbers() {
		for rest := range 33 {
			if n>>rest > 300 {
				continue
			}
			w := writer("011")
			if e := w.Rice(n, rest); e != api.OK {
				t.Fatalf("Rice(%x, %d): %v", n, rest, e)
			}
			w.Bit(true)
			wantBits(t, fmt.Sprintf("Rice(%x, %d)", n, rest), w, "011"+code(n, rest)+"1")
		}
	}
}

// P11.1: 65535 ones are written, one more are not, of any rest; nor anything else of such a number.
func TestWriteRiceMost(t *testing.T) {
	for rest := range 33 {
		least, most := uint64(65535)<<rest, uint64(65536)<<rest-1
		for _, n := range []uint64{least, most} {
			w := writer("01")
			if e := w.Rice(n, rest); e != api.OK {
				t.Errorf("Rice(%x, %d): %v", n, rest, e)
			}
			wantBits(t, fmt.Sprintf("Rice(%x, %d)", n, rest), w, "01"+code(n, rest))
		}
		for _, n := range []uint64{most + 1, most + 2, 65537 << rest, 1 << 31 << rest, 1 << 32 << min(rest, 31), math.MaxUint64} {
			w := writer("01")
			if e := w.Rice(n, rest); e != api.ErrArg {
				t.Errorf("Rice(%x, %d): %v", n, rest, e)
			}
			w.Bit(true)
			wantBits(t, "behind ErrArg", w, "011")
		}
	}
}

// P11.1: a rest that is not 0 to 32 writes nothing.
func TestWriteRiceArg(t *testing.T) {
	for _, rest := range wrongRests {
		for _, n := range []uint64{0, 1, 1 << 40, math.MaxUint64} {
			w := writer("01")
			if e := w.Rice(n, rest); e != api.ErrArg {
				t.Errorf("Rice(%x, %d): %v", n, rest, e)
			}
			w.Bit(true)
			wantBits(t, "behind ErrArg", w, "011")
		}
	}
}

// An answer of Bytes is the asker's, the room behind its end included; asking changes nothing.
func TestWriterMemory(t *testing.T) {
	w := rice.New()
	text := ""
	for i := range 200 {
		bit := "110"[i%3:][:1]
		w.Bit(bit == "1")
		text += bit
		b := w.Bytes()
		b = b[:cap(b)]
		for i := range b {
			b[i] ^= 0xff
		}
		wantBits(t, "behind an answer that was written over", w, text)
	}
	first := w.Bytes()
	w.Bits(math.MaxUint64, 64)
	if !bytes.Equal(first, pack(text)) {
		t.Error("an answer changes with what is written behind it")
	}
}

// Writers know nothing of each other.
func TestWritersApart(t *testing.T) {
	one, two := rice.New(), rice.New()
	one.Bits(5, 3)
	two.Bits(2, 3)
	one.Rice(1, 1)
	wantBits(t, "the one", one, "10101")
	wantBits(t, "the other", two, "010")
}

func TestNoWriter(t *testing.T) {
	for name, w := range map[string]*rice.Writer{"nil": nil, "plain": {}} {
		for _, e := range []api.Errno{
			w.Bit(true), w.Bit(false), w.Bits(1, 1), w.Bits(0, 0), w.Bits(1, 65), w.Bits(1, -1),
			w.Rice(1, 1), w.Rice(1, 33), w.Rice(1, -1), w.Rice(math.MaxUint64, 0),
		} {
			if e != api.ErrNil {
				t.Errorf("a writer that is %s: %v", name, e)
			}
		}
		if b := w.Bytes(); len(b) != 0 {
			t.Errorf("a writer that is %s has bytes %x", name, b)
		}
	}
}

// wantNext is a check of what a call of a reader answers, and of how many bits it left.
func wantNext(t *testing.T, name string, r *rice.Reader, want uint64, fault api.Errno, left int) func(uint64, api.Errno) {
	return func(n uint64, e api.Errno) {
		t.Helper()
		if n != want || e != fault || r.Left() != left {
			t.Errorf("%s: %x, %v, %d left; not %x, %v, %d left", name, n, e, r.Left(), want, fault, left)
		}
	}
}

// reader is one of bits of which some were taken; behind the bits stand the noughts that fill a byte.
func reader(t *testing.T, taken int, text string) *rice.Reader {
	t.Helper()
	r := rice.Open(pack(strings.Repeat("1", taken) + text))
	for range taken {
		if _, e := r.Bit(); e != api.OK {
			t.Fatal(e)
		}
	}
	return r
}

// fill is how many noughts fill the last byte behind so many bits.
func fill(count int) int {
	return (8 - count%8) % 8
}

// P11.2: bit by bit, the highest of each byte first, and how many are left.
func TestReadBit(t *testing.T) {
	text := "0110100110010110111111110000000010101010"
	r := rice.Open(pack(text))
	for i := range text {
		if r.Left() != len(text)-i {
			t.Fatalf("%d left behind %d", r.Left(), i)
		}
		if one, e := r.Bit(); one != (text[i] == '1') || e != api.OK {
			t.Fatalf("bit %d: %v %v", i, one, e)
		}
	}
	for range 3 {
		if one, e := r.Bit(); one || e != api.ErrShort || r.Left() != 0 {
			t.Errorf("behind the end: %v %v, %d left", one, e, r.Left())
		}
	}
}

// P11.2: of nothing a reader is one.
func TestReadNothing(t *testing.T) {
	for _, b := range [][]byte{nil, {}} {
		r := rice.Open(b)
		if one, e := r.Bit(); one || e != api.ErrShort {
			t.Error(one, e)
		}
		wantNext(t, "Bits(0)", r, 0, api.OK, 0)(r.Bits(0))
		wantNext(t, "Bits(1)", r, 0, api.ErrShort, 0)(r.Bits(1))
		wantNext(t, "Bits(65)", r, 0, api.ErrArg, 0)(r.Bits(65))
		wantNext(t, "Rice(0, 0)", r, 0, api.ErrShort, 0)(r.Rice(0, 0))
		wantNext(t, "Rice(33, 0)", r, 0, api.ErrArg, 0)(r.Rice(33, 0))
	}
}

// P11.2: numbers of all counts, at all places in a byte.
func TestReadBits(t *testing.T) {
	for _, n := range numbers() {
		for count := range 65 {
			for taken := range 9 {
				r := reader(t, taken, low(n, count)+"1")
				left := 1 + fill(taken+count+1)
				want := n
				if count < 64 {
					want = n % (1 << count)
				}
				wantNext(t, fmt.Sprintf("%d bits of %x behind %d", count, n, taken), r, want, api.OK, left)(r.Bits(count))
				if one, e := r.Bit(); !one || e != api.OK {
					t.Errorf("behind %d bits: %v %v", count, one, e)
				}
			}
		}
	}
}

// P11.2: ErrArg ahead of ErrShort; neither takes a bit.
func TestReadBitsWrong(t *testing.T) {
	for left := range 65 {
		r := reader(t, 72-left, strings.Repeat("1", left))
		for _, count := range wrongCounts {
			wantNext(t, fmt.Sprintf("Bits(%d) of %d", count, left), r, 0, api.ErrArg, left)(r.Bits(count))
		}
		for count := left + 1; count <= 64; count++ {
			wantNext(t, fmt.Sprintf("Bits(%d) of %d", count, left), r, 0, api.ErrShort, left)(r.Bits(count))
		}
		want := uint64(math.MaxUint64)
		if left < 64 {
			want = 1<<left - 1
		}
		wantNext(t, fmt.Sprintf("Bits(%d) of as many", left), r, want, api.OK, 0)(r.Bits(left))
	}
}

// P11.2: codes of all rests, at all places in a byte; so many ones as may be are no fault.
func TestReadRice(t *testing.T) {
	r := rice.Open([]byte{0xc8})
	wantNext(t, "the example", r, 9, api.OK, 3)(r.Rice(2, 5))
	for _, n := range numbers() {
		for rest := range 33 {
			ones := n >> rest
			if ones > 300 {
				continue
			}
			text := code(n, rest)
			for taken := range 8 {
				for _, most := range []uint64{ones, ones + 1, math.MaxUint64} {
					r := reader(t, taken, text+"1")
					left := 1 + fill(taken+len(text)+1)
					wantNext(t, fmt.Sprintf("the code of %x by %d, at most %d", n, rest, most), r, n, api.OK, left)(r.Rice(rest, most))
				}
			}
		}
	}
}

// P11.2: a number of more ones than may be written is read.
func TestReadRiceMany(t *testing.T) {
	const ones = 200000
	for _, rest := range []int{0, 1, 19, 32} {
		n := uint64(ones)<<rest | (1<<rest - 1)
		r := rice.Open(pack(code(n, rest)))
		wantNext(t, fmt.Sprintf("by %d", rest), r, n, api.OK, fill(ones+1+rest))(r.Rice(rest, ones))
	}
}

// P11.2: a rest that is not 0 to 32 takes nothing.
func TestReadRiceArg(t *testing.T) {
	for _, rest := range wrongRests {
		for _, text := range []string{"", "1", "0", "11111111", "11001000"} {
			r := rice.Open(pack(text))
			for _, most := range []uint64{0, 1, math.MaxUint64} {
				wantNext(t, fmt.Sprintf("Rice(%d, %d)", rest, most), r, 0, api.ErrArg, len(pack(text))*8)(r.Rice(rest, most))
			}
		}
	}
}

// P11.2: ErrForm as soon as there is a one too many; it and those ahead are taken, and nothing behind.
func TestReadRiceForm(t *testing.T) {
	for ones := 1; ones <= 40; ones++ {
		for most := range ones {
			for _, behind := range []string{"", "0", "0111", "1", "00000000"} {
				text := strings.Repeat("1", ones) + behind
				for _, rest := range []int{0, 2, 32} {
					r := rice.Open(pack(text))
					left := len(pack(text))*8 - most - 1
					wantNext(t, fmt.Sprintf("%s by %d, at most %d", text, rest, most), r, 0, api.ErrForm, left)(r.Rice(rest, uint64(most)))
				}
			}
		}
	}
}

// P11.2: ones without a nought behind them are taken, all of them, if they are not too many.
func TestReadRiceShortOnes(t *testing.T) {
	for ones := 0; ones <= 40; ones += 8 {
		for _, most := range []int{ones, ones + 1, math.MaxInt} {
			for _, rest := range []int{0, 2, 32} {
				r := rice.Open(pack(strings.Repeat("1", ones)))
				wantNext(t, fmt.Sprintf("%d ones, at most %d", ones, most), r, 0, api.ErrShort, 0)(r.Rice(rest, uint64(most)))
			}
		}
	}
}

// P11.2: of a rest that is cut short nothing is taken, but the ones and the nought ahead of it are.
func TestReadRiceShortRest(t *testing.T) {
	for rest := 1; rest <= 32; rest++ {
		for there := range rest {
			ones := (8 - (1+there)%8) % 8 // so that the rest's bits that are there end a byte
			for range 3 {
				text := strings.Repeat("1", ones) + "0" + strings.Repeat("1", there)
				r := rice.Open(pack(text))
				wantNext(t, fmt.Sprintf("%s by %d", text, rest), r, 0, api.ErrShort, there)(r.Rice(rest, uint64(ones)))
				wantNext(t, "what is left of "+text, r, 1<<there-1, api.OK, 0)(r.Bits(there))
				ones += 8
			}
		}
	}
}

// What is handed in is neither changed nor kept, and what stands behind its end plays no part.
func TestReaderMemory(t *testing.T) {
	room := []byte{0xc8, 0x35, 0xff, 0xff}
	stays := slices.Clone(room)
	r := rice.Open(room[:2])
	if r.Left() != 16 {
		t.Error(r.Left())
	}
	wantNext(t, "the first one", r, 9, api.OK, 11)(r.Rice(2, 5))
	if !bytes.Equal(room, stays) {
		t.Errorf("%x was changed", room)
	}
	clear(room)
	wantNext(t, "behind a change of what was handed in", r, 0x35, api.OK, 0)(r.Bits(11))
}

func TestNoReader(t *testing.T) {
	for name, r := range map[string]*rice.Reader{"nil": nil, "plain": {}} {
		if one, e := r.Bit(); one || e != api.ErrNil {
			t.Error(name, one, e)
		}
		for _, count := range []int{0, 1, 64, 65, -1} {
			wantNext(t, name, r, 0, api.ErrNil, 0)(r.Bits(count))
		}
		for _, rest := range []int{0, 1, 32, 33, -1} {
			wantNext(t, name, r, 0, api.ErrNil, 0)(r.Rice(rest, 5))
		}
	}
}

// piece is what is written by one call, and read by one.
type piece struct {
	kind  int // 0 a bit, 1 bits, 2 a code
	n     uint64
	count int
}

func pieces(random *rand.Rand) []piece {
	var l []piece
	for range random.Intn(60) {
		p := piece{kind: random.Intn(3), n: random.Uint64() >> random.Intn(64)}
		switch p.kind {
		case 0:
			p.n, p.count = p.n%2, 1
		case 1:
			p.count = random.Intn(65)
			if p.count < 64 {
				p.n %= 1 << p.count
			}
		case 2:
			p.count = random.Intn(33)
			p.n %= 200 << p.count
		}
		l = append(l, p)
	}
	return l
}

func (p piece) write(w *rice.Writer) api.Errno {
	switch p.kind {
	case 0:
		return w.Bit(p.n == 1)
	case 1:
		return w.Bits(p.n, p.count)
	}
	return w.Rice(p.n, p.count)
}

func (p piece) read(r *rice.Reader) (uint64, api.Errno) {
	switch p.kind {
	case 0:
		one, e := r.Bit()
		if one {
			return 1, e
		}
		return 0, e
	case 1:
		return r.Bits(p.count)
	}
	return r.Rice(p.count, 200)
}

// P11.3: whatever is written, by whichever calls, is read; and less than a byte of noughts behind it.
func TestThereAndBack(t *testing.T) {
	random := rand.New(rand.NewSource(3))
	for range 2000 {
		l := pieces(random)
		w := rice.New()
		for _, p := range l {
			if e := p.write(w); e != api.OK {
				t.Fatalf("%+v: %v", p, e)
			}
		}
		r := rice.Open(w.Bytes())
		for _, p := range l {
			if n, e := p.read(r); n != p.n || e != api.OK {
				t.Fatalf("%+v: %x %v", p, n, e)
			}
		}
		if r.Left() >= 8 {
			t.Fatalf("%d left", r.Left())
		}
		if n, e := r.Bits(r.Left()); n != 0 || e != api.OK {
			t.Fatalf("%x %v behind the end", n, e)
		}
	}
}

func BenchmarkThereAndBack(b *testing.B) {
	for range b.N {
		w := rice.New()
		for i := range uint64(20000) {
			w.Rice(i*40, 19)
		}
		r := rice.Open(w.Bytes())
		for range 20000 {
			r.Rice(19, 65535)
		}
	}
}
