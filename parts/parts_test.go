package parts_test

import (
	"bytes"
	"math"
	"testing"

	"sporran/api"
	"sporran/header"
	"sporran/parts"
	"sporran/size"
)

func sample(n int) []byte {
	b := make([]byte, n)
	for i := range b {
		b[i] = byte(i*37 + i/256 + 11)
	}
	return b
}

func wantRead[T comparable](t *testing.T, name string, b []byte, whole func(*parts.Reader) T, want T, behind int) {
	t.Helper()
	got, rest, e := parts.Read(b, whole)
	if e != api.OK || got != want || !bytes.Equal(rest, b[len(b)-behind:]) {
		t.Errorf("%s: %v %x %v", name, got, rest, e)
	}
}

func wantUp[T comparable](t *testing.T, name string, b []byte, whole func(*parts.Reader) T, want api.Errno) {
	t.Helper()
	var none T
	got, rest, e := parts.Read(b, whole)
	if e != want || got != none || rest != nil {
		t.Errorf("%s: %v %x %v, not %v", name, got, rest, e, want)
	}
}

func number(width int) func(*parts.Reader) uint64 {
	return func(r *parts.Reader) uint64 { return r.Number(width) }
}

func TestNumber(t *testing.T) {
	b := []byte{1, 2, 3, 4, 5, 6, 7, 0x88, 9}
	wantRead(t, "of none", b, number(0), 0, 9)
	wantRead(t, "of one", b, number(1), 1, 8)
	wantRead(t, "of four", b, number(4), 0x04030201, 5)
	wantRead(t, "of eight", b, number(8), 0x8807060504030201, 1)
	wantUp(t, "cut short", b[:7], number(8), api.ErrShort)
	wantUp(t, "of nothing", nil, number(1), api.ErrShort)
}

// Number of bytes, and PutNumber, are there and back; what stands ahead stays.
func TestPutNumber(t *testing.T) {
	const n = 0x8877665544332211
	for width := range 9 {
		b := parts.PutNumber([]byte{5}, n, width)
		want := append([]byte{5}, "\x11\x22\x33\x44\x55\x66\x77\x88"[:width]...)
		if !bytes.Equal(b, want) {
			t.Errorf("of %d bytes: %x", width, b)
		}
		if got := parts.Number(b[1:]); got != n&(1<<(8*width)-1) {
			t.Errorf("of %d bytes: %x", width, got)
		}
	}
}

func TestPutList(t *testing.T) {
	put := func(b []byte, x int) []byte { return append(b, byte(x), 9) }
	for _, x := range []struct {
		list []int
		want string
	}{{nil, "\x05\x00"}, {[]int{}, "\x05\x00"}, {[]int{7}, "\x05\x01\x07\x09"}, {[]int{7, 8}, "\x05\x02\x07\x09\x08\x09"}} {
		if b := parts.PutList([]byte{5}, x.list, put); string(b) != x.want {
			t.Errorf("%v: %x", x.list, b)
		}
	}
	if b := parts.PutList(nil, make([]int, 0xfd), put); string(b[:4]) != "\xfd\xfd\x00\x00" || len(b) != 3+2*0xfd {
		t.Errorf("a count of three bytes: %x", b)
	}
}

func TestHash(t *testing.T) {
	hash := func(r *parts.Reader) api.Hash { return r.Hash() }
	wantRead(t, "hash", sample(40), hash, api.Hash(sample(32)), 8)
	wantUp(t, "31 bytes", sample(31), hash, api.ErrShort)
}

func TestNext(t *testing.T) {
	next := func(r *parts.Reader) bool { return r.Next(5) }
	wantRead(t, "it", []byte{5, 6}, next, true, 2)
	wantRead(t, "another one", []byte{6, 5}, next, false, 2)
	wantRead(t, "nothing", nil, next, false, 0)
}

func TestLeft(t *testing.T) {
	left := func(r *parts.Reader) int {
		r.Take(2)
		return r.Left()
	}
	wantRead(t, "some", sample(5), left, 3, 3)
	wantRead(t, "none", sample(2), left, 0, 0)
}

func TestEnd(t *testing.T) {
	end := func(r *parts.Reader) byte {
		x := r.Take(1)[0]
		r.End()
		return x
	}
	wantRead(t, "it", []byte{7}, end, 7, 0)
	wantUp(t, "a byte behind", []byte{7, 8}, end, api.ErrTrail)
	wantUp(t, "cut short", nil, end, api.ErrShort)
}

func TestNeed(t *testing.T) {
	need := func(well bool) func(*parts.Reader) int {
		return func(r *parts.Reader) int {
			r.Take(2)
			r.Need(well, api.ErrTrail)
			return 3
		}
	}
	wantRead(t, "well", sample(5), need(true), 3, 3)
	wantUp(t, "not well", sample(5), need(false), api.ErrTrail)
}

// A piece has no room behind its end in which what stands behind could be changed.
func TestTake(t *testing.T) {
	take := func(r *parts.Reader) string {
		piece := r.Take(2)
		if cap(piece) != 2 {
			t.Errorf("room for %d", cap(piece))
		}
		return string(piece)
	}
	wantRead(t, "piece", []byte("abcd"), take, "ab", 2)
	wantUp(t, "cut short", []byte("a"), take, api.ErrShort)
}

func TestCount(t *testing.T) {
	count := func(most int) func(*parts.Reader) int {
		return func(r *parts.Reader) int { return r.Count(most) }
	}
	wantRead(t, "at most", []byte{7, 8}, count(7), 7, 1)
	wantUp(t, "above", []byte{7, 8}, count(6), api.ErrFull)
	wantUp(t, "form", []byte{0xfd, 0, 0}, count(0), api.ErrForm)
	wantUp(t, "cut short", []byte{0xff, 0, 0}, count(0), api.ErrShort)
	huge := size.Encode(math.MaxInt)
	wantRead(t, "greatest", append(huge, 9), count(math.MaxInt), math.MaxInt, 1)
	wantUp(t, "above all", size.Encode(math.MaxUint64), count(math.MaxInt), api.ErrFull)
}

// Text answers as size.ReadText does.
func TestText(t *testing.T) {
	for _, b := range [][]byte{nil, {0}, {0, 1}, {1}, {1, 2}, {1, 2, 3}, {3, 1, 2}, {0xfd, 1, 0, 9}, {0xff}, size.Text(sample(300)), append(size.Text(sample(300)), 1, 2), size.Encode(math.MaxUint64)} {
		for _, most := range []int{0, 1, 2, 299, 300, math.MaxInt} {
			want, behind, wantError := size.ReadText(b, most)
			got, rest, e := parts.Read(b, func(r *parts.Reader) []byte { return r.Text(most) })
			if !bytes.Equal(got, want) || !bytes.Equal(rest, behind) || e != wantError {
				t.Errorf("%x, at most %d: %x %x %v", b, most, got, rest, e)
			}
		}
	}
}

func TestList(t *testing.T) {
	list := func(r *parts.Reader) string {
		var all []byte
		for _, x := range parts.List(r, 3, number(1)) {
			all = append(all, byte(x))
		}
		return string(all)
	}
	wantRead(t, "none", []byte{0, 1}, list, "", 1)
	wantRead(t, "three", []byte("\x03abcd"), list, "abc", 1)
	wantUp(t, "four", []byte("\x04abcd"), list, api.ErrFull)
	wantUp(t, "one is not there", []byte("\x03ab"), list, api.ErrShort)
}

func TestPart(t *testing.T) {
	part := func(r *parts.Reader) api.Header { return parts.Part(r, 80, header.Decode) }
	want, _, _ := header.Decode(sample(80))
	wantRead(t, "with bytes behind", sample(90), part, want, 10)
	wantRead(t, "nothing behind", sample(80), part, want, 0)
	wantUp(t, "cut short", sample(79), part, api.ErrShort)
	shown := func(r *parts.Reader) int {
		return parts.Part(r, 5, func(b []byte) (int, []byte, api.Errno) { return len(b), b[2:], api.OK })
	}
	wantRead(t, "no more is shown", sample(9), shown, 5, 7)
	wantRead(t, "no more is there", sample(4), shown, 4, 2)
}

// What stands behind is new memory.
func TestReadBehind(t *testing.T) {
	b := sample(9)
	_, rest, e := parts.Read(b, number(4))
	clear(b)
	if e != api.OK || !bytes.Equal(rest, sample(9)[4:]) {
		t.Errorf("%x %v", rest, e)
	}
}

// A panic that is not a reader's passes through.
func TestReadPanic(t *testing.T) {
	defer func() {
		if x := recover(); x != "another one" {
			t.Errorf("it came out as %v", x)
		}
	}()
	parts.Read(nil, func(*parts.Reader) int { panic("another one") })
}
