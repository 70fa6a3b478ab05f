// Package sha is layer 1: see ../../shared/doc/01-sha.md.
package sha

import (
	"math/bits"

	"sporran/api"
)

const (
	blockSize = 64
	countSize = 8 // bytes of the count of bits, at the end of the last block
)

// startWords are the first 32 bits of the fractional parts of the square roots of the first eight primes.
var startWords = [8]uint32{
	0x6a09e667, 0xbb67ae85, 0x3c6ef372, 0xa54ff53a, 0x510e527f, 0x9b05688c, 0x1f83d9ab, 0x5be0cd19,
}

// roundWords are the first 32 bits of the fractional parts of the cube roots of the first 64 primes.
var roundWords = [64]uint32{
	0x428a2f98, 0x71374491, 0xb5c0fbcf, 0xe9b5dba5, 0x3956c25b, 0x59f111f1, 0x923f82a4, 0xab1c5ed5,
	0xd807aa98, 0x12835b01, 0x243185be, 0x550c7dc3, 0x72be5d74, 0x80deb1fe, 0x9bdc06a7, 0xc19bf174,
	0xe49b69c1, 0xefbe4786, 0x0fc19dc6, 0x240ca1cc, 0x2de92c6f, 0x4a7484aa, 0x5cb0a9dc, 0x76f988da,
	0x983e5152, 0xa831c66d, 0xb00327c8, 0xbf597fc7, 0xc6e00bf3, 0xd5a79147, 0x06ca6351, 0x14292967,
	0x27b70a85, 0x2e1b2138, 0x4d2c6dfc, 0x53380d13, 0x650a7354, 0x766a0abb, 0x81c2c92e, 0x92722c85,
	0xa2bfe8a1, 0xa81a664b, 0xc24b8b70, 0xc76c51a3, 0xd192e819, 0xd6990624, 0xf40e3585, 0x106aa070,
	0x19a4c116, 0x1e376c08, 0x2748774c, 0x34b0bcb5, 0x391c0cb3, 0x4ed8aa4a, 0x5b9cca4f, 0x682e6ff3,
	0x748f82ee, 0x78a5636f, 0x84c87814, 0x8cc70208, 0x90befffa, 0xa4506ceb, 0xbef9a3f7, 0xc67178f2,
}

// Hasher sums bytes as they come.
type Hasher struct {
	made  bool // a plain Hasher{} must answer ErrNil, and its words alone do not tell it
	words [8]uint32
	rest  [blockSize]byte // its first count modulo blockSize bytes fill no block yet
	count uint64
}

// Sum is SHA-256 of bytes.
func Sum(b []byte) api.Hash {
	h := New()
	h.take(b)
	return h.end()
}

// Double is SHA-256 of the bytes of SHA-256.
func Double(b []byte) api.Hash {
	first := Sum(b)
	return Sum(first[:])
}

// New is a hasher of no bytes.
func New() *Hasher {
	return &Hasher{made: true, words: startWords}
}

// Write has bytes stand behind those so far.
func (h *Hasher) Write(b []byte) api.Errno {
	if h == nil || !h.made {
		return api.ErrNil
	}
	h.take(b)
	return api.OK
}

// Sum is SHA-256 of all bytes so far.
func (h *Hasher) Sum() api.Hash {
	if h == nil || !h.made {
		return api.Hash{}
	}
	return h.end()
}

func (h *Hasher) take(b []byte) {
	held := int(h.count % blockSize)
	h.count += uint64(len(b))
	if held > 0 {
		n := copy(h.rest[held:], b)
		if held+n < blockSize {
			return
		}
		mix(&h.words, h.rest)
		b = b[n:]
	}
	for len(b) >= blockSize {
		mix(&h.words, [blockSize]byte(b))
		b = b[blockSize:]
	}
	copy(h.rest[:], b)
}

// end pads a copy of the hasher, so that more can be written behind a sum.
func (h *Hasher) end() api.Hash {
	last := *h
	var pad [blockSize + countSize]byte
	pad[0] = 0x80
	held := int(h.count % blockSize)
	n := blockSize - countSize - held
	if n <= 0 { // the byte 80 and the count have no room in this block
		n += blockSize
	}
	bitCount := h.count * 8
	for i := range countSize {
		pad[n+i] = byte(bitCount >> (56 - 8*i))
	}
	last.take(pad[:n+countSize])
	return join(last.words)
}

// join is words as bytes, of each the highest ahead.
func join(words [8]uint32) api.Hash {
	var sum api.Hash
	for i, x := range words {
		sum[4*i] = byte(x >> 24)
		sum[4*i+1] = byte(x >> 16)
		sum[4*i+2] = byte(x >> 8)
		sum[4*i+3] = byte(x)
	}
	return sum
}

// mix works one block into the words.
func mix(words *[8]uint32, block [blockSize]byte) {
	w := spread(block)
	a, b, c, d := words[0], words[1], words[2], words[3]
	e, f, g, h := words[4], words[5], words[6], words[7]
	for i := range w {
		s1 := bits.RotateLeft32(e, -6) ^ bits.RotateLeft32(e, -11) ^ bits.RotateLeft32(e, -25)
		t1 := h + s1 + (e&f ^ ^e&g) + roundWords[i] + w[i]
		s0 := bits.RotateLeft32(a, -2) ^ bits.RotateLeft32(a, -13) ^ bits.RotateLeft32(a, -22)
		t2 := s0 + (a&b ^ a&c ^ b&c)
		h, g, f, e, d, c, b, a = g, f, e, d+t1, c, b, a, t1+t2
	}
	for i, x := range [8]uint32{a, b, c, d, e, f, g, h} {
		words[i] += x
	}
}

// spread is the words of all rounds that a block makes.
func spread(block [blockSize]byte) [64]uint32 {
	var w [64]uint32
	for i := range 16 {
		w[i] = uint32(block[4*i])<<24 | uint32(block[4*i+1])<<16 | uint32(block[4*i+2])<<8 | uint32(block[4*i+3])
	}
	for i := 16; i < len(w); i++ {
		x, y := w[i-15], w[i-2]
		s0 := bits.RotateLeft32(x, -7) ^ bits.RotateLeft32(x, -18) ^ x>>3
		s1 := bits.RotateLeft32(y, -17) ^ bits.RotateLeft32(y, -19) ^ y>>10
		w[i] = w[i-16] + s0 + w[i-7] + s1
	}
	return w
}
