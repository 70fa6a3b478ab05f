package header_test

import (
	"bytes"
	"crypto/sha256"
	"encoding/binary"
	"encoding/hex"
	"math"
	"math/rand"
	"slices"
	"testing"

	"sporran/api"
	"sporran/header"
	"sporran/sha"
)

const allBytes = 80

// firstBytes are the real chain's first header's, firstID its ID.
const (
	firstBytes = "01000000" +
		"0000000000000000000000000000000000000000000000000000000000000000" +
		"3ba3edfd7a7b12b27ac72c3e67768f617fc81bc3888a51323a9fb8aa4b1e5e4a" +
		"29ab5f49" + "ffff001d" + "1dac2b7c"
	firstID = "6fe28c0ab6f1b372c1a6a246ae63f74f931e8365e15a089c68d6190000000000"
)

func sample(n int) []byte {
	b := make([]byte, n)
	for i := range b {
		b[i] = byte(i*37 + i/256 + 11)
	}
	return b
}

func whole(b []byte) []byte {
	return b[:cap(b)]
}

func fromHex(t *testing.T, text string) []byte {
	t.Helper()
	b, err := hex.DecodeString(text)
	if err != nil {
		t.Fatal(err)
	}
	return b
}

func firstHeader(t *testing.T) api.Header {
	t.Helper()
	return api.Header{
		Version: 1,
		Merkle:  api.Hash(fromHex(t, "3ba3edfd7a7b12b27ac72c3e67768f617fc81bc3888a51323a9fb8aa4b1e5e4a")),
		Time:    1231006505,
		Bits:    0x1d00ffff,
		Nonce:   2083236893,
	}
}

// full is a header whose fields all have bytes of their own.
func full() api.Header {
	return api.Header{
		Version: 0x04030201,
		Prev:    api.Hash(sample(32)),
		Merkle:  api.Hash(sample(64)[32:]),
		Time:    0xa4a3a2a1,
		Bits:    0xb4b3b2b1,
		Nonce:   0xc4c3c2c1,
	}
}

// alone are headers of which one field is not nought, and where that one's bytes stand.
func alone() []struct {
	h     api.Header
	at    int
	field string
} {
	h := api.Hash(sample(32))
	return []struct {
		h     api.Header
		at    int
		field string
	}{
		{api.Header{Version: 0x04030201}, 0, "\x01\x02\x03\x04"},
		{api.Header{Version: math.MaxUint32}, 0, "\xff\xff\xff\xff"},
		{api.Header{Prev: h}, 4, string(h[:])},
		{api.Header{Merkle: h}, 36, string(h[:])},
		{api.Header{Time: 0x04030201}, 68, "\x01\x02\x03\x04"},
		{api.Header{Time: 1 << 31}, 68, "\x00\x00\x00\x80"},
		{api.Header{Bits: 0x1d00ffff}, 72, "\xff\xff\x00\x1d"},
		{api.Header{Nonce: 0x04030201}, 76, "\x01\x02\x03\x04"},
		{api.Header{Nonce: math.MaxUint32}, 76, "\xff\xff\xff\xff"},
	}
}

// byBinary is a header's bytes by the library's means.
func byBinary(t *testing.T, h api.Header) []byte {
	t.Helper()
	var b bytes.Buffer
	if err := binary.Write(&b, binary.LittleEndian, h); err != nil {
		t.Fatal(err)
	}
	return b.Bytes()
}

func random(r *rand.Rand) api.Header {
	h := api.Header{Version: r.Uint32(), Time: r.Uint32(), Bits: r.Uint32(), Nonce: r.Uint32()}
	r.Read(h.Prev[:])
	r.Read(h.Merkle[:])
	return h
}

func wantHeader(t *testing.T, b []byte, want api.Header, behind []byte) {
	t.Helper()
	h, rest, e := header.Decode(b)
	if h != want || !bytes.Equal(rest, behind) || e != api.OK {
		t.Errorf("Decode(%x): %+v %x %v", b, h, rest, e)
	}
}

// P6.1: each field alone, in its place.
func TestEncode(t *testing.T) {
	if b := header.Encode(api.Header{}); !bytes.Equal(b, make([]byte, allBytes)) {
		t.Errorf("of noughts: %x", b)
	}
	for _, x := range alone() {
		want := make([]byte, allBytes)
		copy(want[x.at:], x.field)
		if b := header.Encode(x.h); !bytes.Equal(b, want) {
			t.Errorf("%+v: %x", x.h, b)
		}
	}
}

func TestEncodeWhole(t *testing.T) {
	if b := header.Encode(firstHeader(t)); !bytes.Equal(b, fromHex(t, firstBytes)) {
		t.Errorf("the first one: %x", b)
	}
	r := rand.New(rand.NewSource(1))
	for range 200 {
		h := random(r)
		if b, want := header.Encode(h), byBinary(t, h); !bytes.Equal(b, want) {
			t.Errorf("%x, not %x", b, want)
		}
	}
}

// P6.1: each field alone, from its place.
func TestDecode(t *testing.T) {
	wantHeader(t, make([]byte, allBytes), api.Header{}, nil)
	for _, x := range alone() {
		b := make([]byte, allBytes)
		copy(b[x.at:], x.field)
		wantHeader(t, b, x.h, nil)
	}
	wantHeader(t, fromHex(t, firstBytes), firstHeader(t), nil)
}

// P6.1: 80 bytes are a header's, and what is more stands behind.
func TestDecodeBehind(t *testing.T) {
	for _, n := range []int{0, 1, 2, 79, 80, 81, 500} {
		behind := sample(n)
		wantHeader(t, slices.Concat(byBinary(t, full()), behind), full(), behind)
	}
}

// P6.1: fewer than 80 bytes, down to none.
func TestDecodeShort(t *testing.T) {
	b := slices.Concat(byBinary(t, full()), sample(20))
	for n := range allBytes {
		for _, short := range [][]byte{b[:n], bytes.Clone(b[:n])} { // with the rest in the room behind its end, and without
			if h, rest, e := header.Decode(short); h != (api.Header{}) || len(rest) != 0 || e != api.ErrShort {
				t.Errorf("%d bytes: %+v %x %v", n, h, rest, e)
			}
		}
	}
	if h, rest, e := header.Decode(nil); h != (api.Header{}) || len(rest) != 0 || e != api.ErrShort {
		t.Errorf("nil: %+v %x %v", h, rest, e)
	}
}

// P6.1: the ID is the sum of the bytes' sum.
func TestID(t *testing.T) {
	if id := header.ID(firstHeader(t)); !bytes.Equal(id[:], fromHex(t, firstID)) {
		t.Errorf("the first one: %x", id)
	}
	if id := header.ID(api.Header{}); id != sha.Double(make([]byte, allBytes)) {
		t.Errorf("of noughts: %x", id)
	}
	r := rand.New(rand.NewSource(2))
	for range 200 {
		h := random(r)
		first := sha256.Sum256(byBinary(t, h))
		if id := header.ID(h); id != sha256.Sum256(first[:]) {
			t.Errorf("%+v: %x", h, id)
		}
	}
}

// P6.1: each field plays its part in the ID.
func TestIDFields(t *testing.T) {
	seen := map[api.Hash]bool{header.ID(api.Header{}): true}
	for _, x := range alone() {
		id := header.ID(x.h)
		if seen[id] {
			t.Errorf("%+v has another one's ID", x.h)
		}
		seen[id] = true
	}
}

// P6.2: there and back.
func TestBack(t *testing.T) {
	r := rand.New(rand.NewSource(3))
	for range 1000 {
		h := random(r)
		behind := sample(r.Intn(100))
		wantHeader(t, slices.Concat(header.Encode(h), behind), h, behind)
	}
	for _, x := range alone() {
		wantHeader(t, header.Encode(x.h), x.h, nil)
	}
}

// P6.2: any 80 bytes are a header's, and its bytes these.
func TestBytesBack(t *testing.T) {
	r := rand.New(rand.NewSource(4))
	for range 1000 {
		b := make([]byte, allBytes+r.Intn(10))
		r.Read(b)
		h, rest, e := header.Decode(b)
		if e != api.OK || !bytes.Equal(slices.Concat(header.Encode(h), rest), b) {
			t.Fatalf("%x: %+v %x %v", b, h, rest, e)
		}
	}
}

// What is handed in is not changed, the room behind its end included; no answer shares memory with it, spare room included.
func TestDecodeMemory(t *testing.T) {
	for n := range 100 {
		b := slices.Concat(sample(n), sample(50))[:n]
		before := bytes.Clone(whole(b))
		_, rest, _ := header.Decode(b)
		if !bytes.Equal(whole(b), before) {
			t.Errorf("%d bytes were changed", n)
		}
		clear(whole(rest))
		if !bytes.Equal(whole(b), before) {
			t.Errorf("%d bytes: what stands behind is a piece of them", n)
		}
	}
}

func TestDecodeNotKept(t *testing.T) {
	b := slices.Concat(byBinary(t, full()), sample(9))
	h, rest, _ := header.Decode(b)
	clear(whole(b))
	if h != full() || !bytes.Equal(rest, sample(9)) {
		t.Errorf("%+v %x", h, rest)
	}
}

// No answer shares memory with another one's, spare room included.
func TestEncodeMemory(t *testing.T) {
	first, second := header.Encode(full()), header.Encode(full())
	clear(whole(first))
	if want := byBinary(t, full()); !bytes.Equal(second, want) || !bytes.Equal(header.Encode(full()), want) {
		t.Errorf("%x, not %x", second, want)
	}
}
