// Package sip is layer 2: see ../../shared/doc/02-sip.md.
package sip

import "math/bits"

// startWords are xored with the key's two words, each of which serves twice.
var startWords = [4]uint64{0x736f6d6570736575, 0x646f72616e646f6d, 0x6c7967656e657261, 0x7465646279746573}

const (
	wordSize  = 8
	wordTurns = 2 // rounds behind each word
	lastTurns = 4 // rounds at the end
	lastMark  = 0xff
)

// Sum is SipHash-2-4 of bytes under a key of two words.
func Sum(k0, k1 uint64, b []byte) uint64 {
	v := [4]uint64{k0 ^ startWords[0], k1 ^ startWords[1], k0 ^ startWords[2], k1 ^ startWords[3]}
	var last [wordSize]byte
	last[wordSize-1] = byte(len(b))
	for len(b) >= wordSize {
		mix(&v, [wordSize]byte(b))
		b = b[wordSize:]
	}
	copy(last[:], b) // at most seven bytes are left: the highest one keeps the count
	mix(&v, last)
	v[2] ^= lastMark
	turn(&v, lastTurns)
	return v[0] ^ v[1] ^ v[2] ^ v[3]
}

// mix works one word into the four.
func mix(v *[4]uint64, word [wordSize]byte) {
	var m uint64
	for i, x := range word {
		m |= uint64(x) << (8 * i)
	}
	v[3] ^= m
	turn(v, wordTurns)
	v[0] ^= m
}

// turn does some rounds.
func turn(v *[4]uint64, rounds int) {
	for range rounds {
		v[0] += v[1]
		v[1] = bits.RotateLeft64(v[1], 13) ^ v[0]
		v[0] = bits.RotateLeft64(v[0], 32)
		v[2] += v[3]
		v[3] = bits.RotateLeft64(v[3], 16) ^ v[2]
		v[0] += v[3]
		v[3] = bits.RotateLeft64(v[3], 21) ^ v[0]
		v[2] += v[1]
		v[1] = bits.RotateLeft64(v[1], 17) ^ v[2]
		v[2] = bits.RotateLeft64(v[2], 32)
	}
}

// Scale is the high half of a product: a number below n, in the place of x.
func Scale(x, n uint64) uint64 {
	high, _ := bits.Mul64(x, n)
	return high
}
