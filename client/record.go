package client

import (
	"math"
	"strconv"
	"strings"

	"sporran/api"
	"sporran/header"
	"sporran/parts"
)

// What the journal's keys begin with; the cursor's is all of its key.
const (
	cursorMark = "c"
	didMark    = "d"
	headerMark = "h"
	coinMark   = "u"
	scriptMark = "w"
)

// How many digits or bytes numbers have.
const (
	headerDigits = 8
	scriptDigits = 3
	shortBytes   = 4 // places, counts, lengths
	longBytes    = 8 // values, heights
)

const hashBytes = len(api.Hash{})

// did is what a block did: to the coins, and to the balance.
type did struct {
	undo    api.Undo
	entries []api.Entry
}

// nothing tells whether it did nothing: without coins there are no entries.
func (d did) nothing() bool {
	return len(d.undo.Made)+len(d.undo.Spent) == 0
}

func headerKey(n int) string {
	return headerMark + digits(n, headerDigits)
}

func scriptKey(n int) string {
	return scriptMark + digits(n, scriptDigits)
}

func didKey(id api.Hash) string {
	return didMark + string(id[:])
}

func coinKey(p api.Point) string {
	return coinMark + string(putPoint(nil, p))
}

// digits are a number's, which has no more than the width.
func digits(n, width int) string {
	text := strconv.Itoa(n)
	return strings.Repeat("0", width-len(text)) + text
}

func headerPair(n int, h api.Header) api.Pair {
	return api.Pair{Key: headerKey(n), Value: header.Encode(h)}
}

func cursorPair(id api.Hash) api.Pair {
	return api.Pair{Key: cursorMark, Value: id[:]}
}

func coinPair(c api.Coin) api.Pair {
	return api.Pair{Key: coinKey(c.Point), Value: append(putLongs(nil, c.Out.Value, int64(c.Height)), c.Out.Script...)}
}

func didPair(id api.Hash, d did) api.Pair {
	var b []byte
	for _, count := range [...]int{len(d.undo.Made), len(d.undo.Spent), len(d.entries)} {
		b = putNumber(b, uint64(count), shortBytes)
	}
	for _, coins := range [...][]api.Coin{d.undo.Made, d.undo.Spent} {
		for _, c := range coins {
			b = putCoin(b, c)
		}
	}
	for _, x := range d.entries {
		b = append(b, x.ID[:]...)
		b = putLongs(b, int64(x.Height), x.Got, x.Paid)
	}
	return api.Pair{Key: didKey(id), Value: b}
}

func putCoin(b []byte, c api.Coin) []byte {
	b = putLongs(putPoint(b, c.Point), c.Out.Value, int64(c.Height))
	b = putNumber(b, uint64(len(c.Out.Script)), shortBytes)
	return append(b, c.Out.Script...)
}

func putPoint(b []byte, p api.Point) []byte {
	return putNumber(append(b, p.ID[:]...), uint64(p.Index), shortBytes)
}

func putLongs(b []byte, numbers ...int64) []byte {
	for _, n := range numbers {
		b = putNumber(b, uint64(n), longBytes)
	}
	return b
}

// putNumber puts a number's bytes, the highest first: so keys rise as their numbers do.
func putNumber(b []byte, n uint64, width int) []byte {
	for i := range width {
		b = append(b, byte(n>>(8*(width-1-i))))
	}
	return b
}

// readWhole is what read makes of bytes; false, if it can't, or some are left.
func readWhole[T any](b []byte, read func(*parts.Reader) T) (T, bool) {
	x, _, e := parts.Read(b, func(r *parts.Reader) T {
		x := read(r)
		r.End()
		return x
	})
	return x, e == api.OK
}

func readHeader(r *parts.Reader) api.Header {
	return parts.Part(r, r.Left(), header.Decode)
}

// readLoose is a coin of the journal, as its key (without the mark) and its value stand one behind the other: the script is all that is left.
func readLoose(r *parts.Reader) api.Coin {
	c := readHead(r)
	c.Out.Script = readBytes(r, r.Left())
	return c
}

func readDid(r *parts.Reader) did {
	made, spent, entries := readShort(r), readShort(r), readShort(r)
	var d did
	d.undo.Made = readMany(r, made, readCoin)
	d.undo.Spent = readMany(r, spent, readCoin)
	d.entries = readMany(r, entries, readEntry)
	return d
}

func readCoin(r *parts.Reader) api.Coin {
	c := readHead(r)
	c.Out.Script = readBytes(r, readShort(r))
	return c
}

// readHead is a coin up to its script.
func readHead(r *parts.Reader) api.Coin {
	var c api.Coin
	c.Point = api.Point{ID: r.Hash(), Index: uint32(readShort(r))}
	c.Out.Value = readLong(r)
	c.Height = int(readLong(r))
	return c
}

func readEntry(r *parts.Reader) api.Entry {
	return api.Entry{ID: r.Hash(), Height: int(readLong(r)), Got: readLong(r), Paid: readLong(r)}
}

// readMany grows with what is there, so that a count alone takes no memory.
func readMany[T any](r *parts.Reader, count int, read func(*parts.Reader) T) []T {
	var list []T
	for range count {
		list = append(list, read(r))
	}
	return list
}

func readBytes(r *parts.Reader, n int) []byte {
	return append([]byte(nil), r.Take(n)...)
}

func readShort(r *parts.Reader) int {
	return int(number(r.Take(shortBytes)))
}

func readLong(r *parts.Reader) int64 {
	n := number(r.Take(longBytes))
	r.Need(n <= math.MaxInt64, api.ErrForm)
	return int64(n)
}

func number(b []byte) uint64 {
	var n uint64
	for _, x := range b {
		n = n<<8 | uint64(x)
	}
	return n
}
