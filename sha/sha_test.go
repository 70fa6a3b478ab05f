package sha_test

import (
	"bytes"
	"crypto/sha256"
	"encoding/hex"
	"math/rand"
	"strings"
	"testing"

	"sporran/api"
	"sporran/sha"
)

// edges are lengths about the ends of blocks, and about where the count has no room any more.
var edges = []int{0, 1, 2, 54, 55, 56, 57, 62, 63, 64, 65, 118, 119, 120, 121, 127, 128, 129, 183, 184, 191, 192, 193, 1000}

func sample(n int) []byte {
	b := make([]byte, n)
	for i := range b {
		b[i] = byte(i*37 + i/256 + 11)
	}
	return b
}

func hash(t *testing.T, text string) api.Hash {
	t.Helper()
	b, err := hex.DecodeString(text)
	if err != nil || len(b) != len(api.Hash{}) {
		t.Fatalf("no hash: %s", text)
	}
	return api.Hash(b)
}

func write(t *testing.T, h *sha.Hasher, b []byte) {
	t.Helper()
	if e := h.Write(b); e != api.OK {
		t.Fatalf("Write of %d bytes: %v", len(b), e)
	}
}

// P1.1: sums that were published with FIPS 180-4.
func TestSumPublished(t *testing.T) {
	for _, x := range []struct{ text, sum string }{
		{"", "e3b0c44298fc1c149afbf4c8996fb92427ae41e4649b934ca495991b7852b855"},
		{"abc", "ba7816bf8f01cfea414140de5dae2223b00361a396177a9cb410ff61f20015ad"},
		{"abcdbcdecdefdefgefghfghighijhijkijkljklmklmnlmnomnopnopq", "248d6a61d20638b8e5c026930c3e6039a33ce45964ff2167f6ecedd419db06c1"},
		{
			"abcdefghbcdefghicdefghijdefghijkefghijklfghijklmghijklmnhijklmnoijklmnopjklmnopqklmnopqrlmnopqrsmnopqrstnopqrstu",
			"cf5b16a778af8380036ce59e7b0492370b249b11e8f07a51afac45037afee9d1",
		},
		{strings.Repeat("a", 1000000), "cdc76e5c9914fb9281a1c7e284d73e67f1809a48a497200e046d39ccc7112cd0"},
	} {
		if got, want := sha.Sum([]byte(x.text)), hash(t, x.sum); got != want {
			t.Errorf("Sum of %d bytes: %x, not %x", len(x.text), got, want)
		}
	}
}

// P1.1: every length over some blocks' ends, against another SHA-256.
func TestSumLengths(t *testing.T) {
	all := sample(400)
	for n := range all {
		if got, want := sha.Sum(all[:n]), api.Hash(sha256.Sum256(all[:n])); got != want {
			t.Errorf("Sum of %d bytes: %x, not %x", n, got, want)
		}
	}
}

func TestSumNothing(t *testing.T) {
	want := api.Hash(sha256.Sum256(nil))
	if sha.Sum(nil) != want || sha.Sum([]byte{}) != want {
		t.Errorf("nil: %x, empty: %x, not %x", sha.Sum(nil), sha.Sum([]byte{}), want)
	}
}

// P1.1: each bit of a block plays its part.
func TestSumBits(t *testing.T) {
	b := sample(64)
	for i := range len(b) * 8 {
		b[i/8] ^= 1 << (i % 8)
		if got, want := sha.Sum(b), api.Hash(sha256.Sum256(b)); got != want {
			t.Fatalf("bit %d: %x, not %x", i, got, want)
		}
	}
}

// P1.1: a sum of a sum.
func TestDouble(t *testing.T) {
	if got, want := sha.Double([]byte("hello")), hash(t, "9595c9df90075148eb06860365df33584b75bff782a510c6cd4883a419833d50"); got != want {
		t.Errorf("Double of hello: %x, not %x", got, want)
	}
	nothing := hash(t, "5df6e0e2761359d30a8275058e299fcc0381534545f55cf43e41983f5d4c9456")
	if sha.Double(nil) != nothing || sha.Double([]byte{}) != nothing {
		t.Errorf("Double of nothing: %x", sha.Double(nil))
	}
	for _, n := range edges {
		first := sha256.Sum256(sample(n))
		if got, want := sha.Double(sample(n)), api.Hash(sha256.Sum256(first[:])); got != want {
			t.Errorf("Double of %d bytes: %x, not %x", n, got, want)
		}
	}
}

// P1.2: a new hasher has nothing, and what is written stands behind.
func TestHasher(t *testing.T) {
	h := sha.New()
	if h.Sum() != sha.Sum(nil) {
		t.Fatalf("of nothing: %x", h.Sum())
	}
	write(t, h, []byte("ab"))
	if h.Sum() != sha.Sum([]byte("ab")) {
		t.Fatalf("of ab: %x", h.Sum())
	}
	write(t, h, []byte("c"))
	if h.Sum() != sha.Sum([]byte("abc")) {
		t.Fatalf("of abc: %x", h.Sum())
	}
	if h.Sum() != h.Sum() {
		t.Fatal("two sums of one hasher are not the same")
	}
}

func TestHasherNothingWritten(t *testing.T) {
	h := sha.New()
	write(t, h, nil)
	write(t, h, []byte{})
	if h.Sum() != sha.Sum(nil) {
		t.Fatalf("%x", h.Sum())
	}
	write(t, h, sample(64))
	write(t, h, nil)
	if h.Sum() != sha.Sum(sample(64)) {
		t.Fatalf("%x", h.Sum())
	}
}

func TestHashersApart(t *testing.T) {
	a, b := sha.New(), sha.New()
	write(t, a, sample(70))
	write(t, b, sample(5))
	if a.Sum() != sha.Sum(sample(70)) || b.Sum() != sha.Sum(sample(5)) {
		t.Fatal("one hasher's bytes are another one's")
	}
	if sha.New().Sum() != sha.Sum(nil) {
		t.Fatal("a new hasher has bytes of an old one")
	}
}

// P1.3: two writes, cut at every place, with a sum asked in between.
func TestCutTwice(t *testing.T) {
	for _, n := range edges {
		all := sample(n)
		want := api.Hash(sha256.Sum256(all))
		for cut := range n + 1 {
			h := sha.New()
			write(t, h, all[:cut])
			if h.Sum() != sha256.Sum256(all[:cut]) {
				t.Fatalf("%d bytes cut at %d: sum of the first part", n, cut)
			}
			write(t, h, all[cut:])
			if h.Sum() != want {
				t.Fatalf("%d bytes cut at %d", n, cut)
			}
		}
	}
}

// P1.3: writes of one size, with a sum asked behind each one.
func TestCutEvenly(t *testing.T) {
	all := sample(300)
	for size := 1; size <= 200; size++ {
		h, plain := sha.New(), sha.New()
		for at := 0; at < len(all); at += size {
			end := min(at+size, len(all))
			write(t, h, all[at:end])
			write(t, plain, all[at:end])
			if h.Sum() != sha256.Sum256(all[:end]) {
				t.Fatalf("size %d at %d", size, end)
			}
		}
		if plain.Sum() != h.Sum() {
			t.Fatalf("size %d: a sum in between changed what came", size)
		}
	}
}

// P1.3: writes of all sizes, from a seed that stays.
func TestCutAnyhow(t *testing.T) {
	r := rand.New(rand.NewSource(1))
	for range 500 {
		all := sample(r.Intn(700))
		h := sha.New()
		for at := 0; at < len(all); {
			end := at + r.Intn(min(len(all)-at, 150)+1)
			write(t, h, all[at:end])
			at = end
			if r.Intn(3) == 0 && h.Sum() != sha256.Sum256(all[:at]) {
				t.Fatalf("sum at %d of %d", at, len(all))
			}
		}
		if h.Sum() != sha256.Sum256(all) {
			t.Fatalf("%d bytes", len(all))
		}
	}
}

// P1.1, P1.2: the count of bits needs more than four of its eight bytes.
func TestManyBits(t *testing.T) {
	part := sample(1 << 20)
	h, other := sha.New(), sha256.New()
	for range 1 << 9 {
		write(t, h, part)
		other.Write(part)
	}
	write(t, h, part[:3])
	other.Write(part[:3])
	if got, want := h.Sum(), api.Hash(other.Sum(nil)); got != want {
		t.Errorf("%x, not %x", got, want)
	}
}

func TestNoHasher(t *testing.T) {
	var none *sha.Hasher
	plain := &sha.Hasher{}
	for name, h := range map[string]*sha.Hasher{"nil": none, "plain": plain} {
		for _, b := range [][]byte{nil, {}, {1}, sample(200)} {
			if e := h.Write(b); e != api.ErrNil {
				t.Errorf("%s: Write of %d bytes: %v", name, len(b), e)
			}
			if s := h.Sum(); s != (api.Hash{}) {
				t.Errorf("%s: Sum %x", name, s)
			}
		}
	}
}

// What is handed in is not changed, the room behind its end included.
func TestArgumentsStay(t *testing.T) {
	for _, n := range edges {
		room := sample(n + 100)
		b := room[:n]
		sha.Sum(b)
		sha.Double(b)
		h := sha.New()
		write(t, h, b)
		h.Sum()
		if !bytes.Equal(room, sample(n+100)) {
			t.Errorf("%d bytes were changed", n)
		}
	}
}

// What is handed in is not kept.
func TestArgumentsNotKept(t *testing.T) {
	for _, n := range edges {
		b := sample(n)
		h := sha.New()
		write(t, h, b)
		clear(b)
		write(t, h, []byte{9})
		if h.Sum() != sha.Sum(append(sample(n), 9)) {
			t.Errorf("%d bytes that were changed later", n)
		}
	}
}

func BenchmarkSum(b *testing.B) {
	all := sample(1 << 16)
	b.SetBytes(int64(len(all)))
	for range b.N {
		sha.Sum(all)
	}
}
