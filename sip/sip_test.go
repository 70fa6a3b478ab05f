package sip_test

import (
	"bytes"
	"math"
	"math/big"
	"testing"

	"sporran/sip"
)

// The key 00 01 .. 0f, lowest bytes first.
const (
	key0 = 0x0706050403020100
	key1 = 0x0f0e0d0c0b0a0908
)

// published are the sums of 00 01 02 .., of 0 to 63 bytes, that came with SipHash-2-4.
var published = [64]uint64{
	0x726fdb47dd0e0e31, 0x74f839c593dc67fd, 0x0d6c8009d9a94f5a, 0x85676696d7fb7e2d,
	0xcf2794e0277187b7, 0x18765564cd99a68d, 0xcbc9466e58fee3ce, 0xab0200f58b01d137,
	0x93f5f5799a932462, 0x9e0082df0ba9e4b0, 0x7a5dbbc594ddb9f3, 0xf4b32f46226bada7,
	0x751e8fbc860ee5fb, 0x14ea5627c0843d90, 0xf723ca908e7af2ee, 0xa129ca6149be45e5,
	0x3f2acc7f57c29bdb, 0x699ae9f52cbe4794, 0x4bc1b3f0968dd39c, 0xbb6dc91da77961bd,
	0xbed65cf21aa2ee98, 0xd0f2cbb02e3b67c7, 0x93536795e3a33e88, 0xa80c038ccd5ccec8,
	0xb8ad50c6f649af94, 0xbce192de8a85b8ea, 0x17d835b85bbb15f3, 0x2f2e6163076bcfad,
	0xde4daaaca71dc9a5, 0xa6a2506687956571, 0xad87a3535c49ef28, 0x32d892fad841c342,
	0x7127512f72f27cce, 0xa7f32346f95978e3, 0x12e0b01abb051238, 0x15e034d40fa197ae,
	0x314dffbe0815a3b4, 0x027990f029623981, 0xcadcd4e59ef40c4d, 0x9abfd8766a33735c,
	0x0e3ea96b5304a7d0, 0xad0c42d6fc585992, 0x187306c89bc215a9, 0xd4a60abcf3792b95,
	0xf935451de4f21df2, 0xa9538f0419755787, 0xdb9acddff56ca510, 0xd06c98cd5c0975eb,
	0xe612a3cb9ecba951, 0xc766e62cfcadaf96, 0xee64435a9752fe72, 0xa192d576b245165a,
	0x0a8787bf8ecb74b2, 0x81b3e73d20b49b6f, 0x7fa8220ba3b2ecea, 0x245731c13ca42499,
	0xb78dbfaf3a8d83bd, 0xea1ad565322a1a0b, 0x60e61c23a3795013, 0x6606d7e446282b93,
	0x6ca4ecb15c5f91e1, 0x9f626da15c9625f3, 0xe51b38608ef25f57, 0x958a324ceb064572,
}

func rising(n int) []byte {
	b := make([]byte, n)
	for i := range b {
		b[i] = byte(i)
	}
	return b
}

// P2.1: every number of bytes left over at the end of eight, nothing at all among them.
func TestSumPublished(t *testing.T) {
	for n, want := range published {
		if got := sip.Sum(key0, key1, rising(n)); got != want {
			t.Errorf("%d bytes: %x, not %x", n, got, want)
		}
	}
}

// P2.1: the count in the highest byte goes round at 256.
func TestSumLong(t *testing.T) {
	for _, x := range []struct {
		n   int
		sum uint64
	}{
		{255, 0xa9c169fec74db21a},
		{256, 0x999d0526d2a7bfd7},
		{257, 0x8a817b8d55b29748},
		{300, 0x4b0b710db6117839},
		{511, 0x969303d05e5af242},
		{512, 0x883b57c3e55ada0e},
	} {
		if got := sip.Sum(key0, key1, rising(x.n)); got != x.sum {
			t.Errorf("%d bytes: %x, not %x", x.n, got, x.sum)
		}
	}
}

// P2.1: keys with high bits, and without any.
func TestSumKeys(t *testing.T) {
	odd := make([]byte, 29)
	for i := range odd {
		odd[i] = byte(i*7 + 250)
	}
	for _, x := range []struct {
		k0, k1 uint64
		b      []byte
		sum    uint64
	}{
		{0xf8f9fafbfcfdfeff, 0xefcdab8967452301, odd, 0x02b7587518baf0f9},
		{0, 0, nil, 0x1e924b9d737700d7},
		{math.MaxUint64, math.MaxUint64, nil, 0x35dd279ee86ce565},
	} {
		if got := sip.Sum(x.k0, x.k1, x.b); got != x.sum {
			t.Errorf("%x %x: %x, not %x", x.k0, x.k1, got, x.sum)
		}
	}
	if sip.Sum(key0, key1, odd) == sip.Sum(key1, key0, odd) {
		t.Error("which word of the key is which plays no part")
	}
}

func TestSumNothing(t *testing.T) {
	if sip.Sum(key0, key1, nil) != published[0] || sip.Sum(key0, key1, []byte{}) != published[0] {
		t.Error("nil and empty are not the same")
	}
}

// P2.1: noughts behind the bytes are not the noughts that fill a word.
func TestSumNoughts(t *testing.T) {
	seen := map[uint64]int{}
	for n := range 300 {
		s := sip.Sum(key0, key1, make([]byte, n))
		if m, ok := seen[s]; ok {
			t.Errorf("%d and %d noughts have one sum", m, n)
		}
		seen[s] = n
	}
}

// What is handed in is not changed, and what stands behind its end plays no part.
func TestSumArgumentStays(t *testing.T) {
	for n := range published {
		room := rising(n + 20)
		if got := sip.Sum(key0, key1, room[:n]); got != published[n] {
			t.Errorf("%d bytes with room behind: %x", n, got)
		}
		if !bytes.Equal(room, rising(n+20)) {
			t.Errorf("%d bytes were changed", n)
		}
	}
}

// numbers are some at the ends of their range and in the middle of it.
func numbers() []uint64 {
	l := []uint64{0, 1, 2, 3, 10, 784931, 1<<32 - 1, 1 << 32, 1<<32 + 1, 0x123456789abcdef0, 1<<63 - 1, 1 << 63, 1<<63 + 1, math.MaxUint64 - 1, math.MaxUint64}
	x := uint64(1)
	for range 40 {
		x = x*6364136223846793005 + 1442695040888963407
		l = append(l, x, x>>20, x>>40)
	}
	return l
}

// P2.1: the product, divided by 2^64.
func TestScale(t *testing.T) {
	if got := sip.Scale(1<<63, 10); got != 5 {
		t.Errorf("Scale(2^63, 10): %d", got)
	}
	for _, x := range numbers() {
		for _, n := range numbers() {
			want := new(big.Int).SetUint64(x)
			want.Mul(want, new(big.Int).SetUint64(n)).Rsh(want, 64)
			if got := sip.Scale(x, n); got != want.Uint64() {
				t.Errorf("Scale(%d, %d): %d, not %d", x, n, got, want)
			}
		}
	}
}

// P2.2: below n, if n is not 0.
func TestScaleBelow(t *testing.T) {
	for _, n := range numbers() {
		for _, x := range numbers() {
			got := sip.Scale(x, n)
			if n != 0 && got >= n {
				t.Errorf("Scale(%d, %d): %d is not below", x, n, got)
			}
			if n == 0 && got != 0 {
				t.Errorf("Scale(%d, 0): %d", x, got)
			}
		}
		if n != 0 && sip.Scale(math.MaxUint64, n) != n-1 {
			t.Errorf("the greatest x does not reach %d", n-1)
		}
	}
}

// P2.2: no fall when x rises.
func TestScaleRises(t *testing.T) {
	for _, n := range numbers() {
		for _, x := range numbers() {
			if x < math.MaxUint64 && sip.Scale(x, n) > sip.Scale(x+1, n) {
				t.Errorf("Scale falls behind %d with %d", x, n)
			}
			for _, y := range numbers() {
				if x < y && sip.Scale(x, n) > sip.Scale(y, n) {
					t.Errorf("Scale falls from %d to %d with %d", x, y, n)
				}
			}
		}
	}
}

func BenchmarkSum(b *testing.B) {
	all := rising(1 << 16)
	b.SetBytes(int64(len(all)))
	for range b.N {
		sip.Sum(key0, key1, all)
	}
}
