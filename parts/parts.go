// Package parts reads and writes bytes part by part. Of a reader the first part that can't be read gives up by panic, and Read, which began it, tells its error.
package parts

import (
	"bytes"

	"sporran/api"
	"sporran/size"
)

const mostCount = 9 // bytes of the widest count

// Reader has the bytes that are not read yet. Its methods, List and Part give up where they can't go on, and so are for what Read calls alone.
type Reader struct {
	left []byte
}

// Read is what whole reads at the beginning of bytes, and what stands behind; or the error with which a part gave up.
func Read[T any](b []byte, whole func(*Reader) T) (read T, behind []byte, e api.Errno) {
	defer func() {
		switch x := recover().(type) {
		case nil:
		case api.Errno:
			e = x
		default: // not ours: a fault of the program, which must not be taken for one of the bytes
			panic(x)
		}
	}()
	r := &Reader{left: b}
	read = whole(r)
	return read, bytes.Clone(r.left), api.OK
}

// Need gives up with an error, unless all is well.
func (r *Reader) Need(well bool, e api.Errno) {
	if !well {
		panic(e)
	}
}

// Take is the next n bytes: a piece of what is read, so whoever answers them copies them.
func (r *Reader) Take(n int) []byte {
	r.Need(n <= len(r.left), api.ErrShort)
	piece := r.left[:n:n]
	r.left = r.left[n:]
	return piece
}

// Next tells whether the next byte is x, and leaves it where it is.
func (r *Reader) Next(x byte) bool {
	return len(r.left) > 0 && r.left[0] == x
}

// Left is how many bytes are not read yet.
func (r *Reader) Left() int {
	return len(r.left)
}

// End gives up, unless all is read.
func (r *Reader) End() {
	r.Need(len(r.left) == 0, api.ErrTrail)
}

// Number is that of the next bytes, the lowest first.
func (r *Reader) Number(width int) uint64 {
	return Number(r.Take(width))
}

// Hash is that of the next 32 bytes.
func (r *Reader) Hash() api.Hash {
	return api.Hash(r.Take(len(api.Hash{})))
}

// Count is the next count; it gives up, if that is above most.
func (r *Reader) Count(most int) int {
	n := Part(r, mostCount, size.Decode)
	r.Need(n <= uint64(most), api.ErrFull)
	return int(n)
}

// Text is the bytes of the next text. It answers as size.ReadText does, which would copy all that stands behind for each text.
func (r *Reader) Text(most int) []byte {
	return append([]byte(nil), r.Take(r.Count(most))...)
}

// List is a count, and as many parts. It grows with the parts that are there, so that a count alone takes no memory.
func List[T any](r *Reader, most int, read func(*Reader) T) []T {
	var list []T
	for range r.Count(most) {
		list = append(list, read(r))
	}
	return list
}

// Part is what another layer's call reads next. It may have at most so many bytes: no more are shown to the call, which copies what stands behind.
func Part[T any](r *Reader, most int, decode func([]byte) (T, []byte, api.Errno)) T {
	shown := r.left[:min(most, len(r.left))]
	part, behind, e := decode(shown)
	r.Need(e == api.OK, e)
	r.left = r.left[len(shown)-len(behind):]
	return part
}

// Number is that of bytes, the lowest first.
func Number(b []byte) uint64 {
	var n uint64
	for i, x := range b {
		n |= uint64(x) << (8 * i)
	}
	return n
}

// PutNumber puts a number's bytes, the lowest first.
func PutNumber(b []byte, n uint64, width int) []byte {
	for i := range width {
		b = append(b, byte(n>>(8*i)))
	}
	return b
}

// PutList puts a count, and as many parts.
func PutList[T any](b []byte, list []T, put func([]byte, T) []byte) []byte {
	b = append(b, size.Encode(uint64(len(list)))...)
	for _, x := range list {
		b = put(b, x)
	}
	return b
}
