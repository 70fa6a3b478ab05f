package script_test

import (
	"bytes"
	"encoding/hex"
	"math"
	"math/rand"
	"slices"
	"strings"
	"testing"

	"sporran/api"
	"sporran/script"
)

// forms are the chapter's table: what stands ahead of a kind's bytes, how many these are (-1: any), what stands behind.
var forms = []struct {
	kind  int
	ahead string
	count int
	tail  string
}{
	{api.ScriptKey, "76a914", 20, "88ac"},
	{api.ScriptHash, "a914", 20, "87"},
	{api.ScriptKey0, "0014", 20, ""},
	{api.ScriptHash0, "0020", 32, ""},
	{api.ScriptRoot, "5120", 32, ""},
	{api.ScriptData, "6a", -1, ""},
}

// published are scripts that everybody knows.
var published = []struct {
	kind        int
	text, bytes string
}{
	{api.ScriptKey, "76a91462e907b15cbf27d5425399ebf6f0fb50ebb88f1888ac", "62e907b15cbf27d5425399ebf6f0fb50ebb88f18"},
	{api.ScriptHash, "a914b472a266d0bd89c13706a4132ccfb16f7c3b9fcb87", "b472a266d0bd89c13706a4132ccfb16f7c3b9fcb"},
	{api.ScriptKey0, "0014751e76e8199196d454941c45d1b3a323f1433bd6", "751e76e8199196d454941c45d1b3a323f1433bd6"},
	{api.ScriptHash0, "00201863143c14c5166804bd19203356da136c985678cd4d27a1b8c6329604903262", "1863143c14c5166804bd19203356da136c985678cd4d27a1b8c6329604903262"},
	{api.ScriptRoot, "512079be667ef9dcbbac55a06295ce870b07029bfcdb2dce28d959f2815b16f81798", "79be667ef9dcbbac55a06295ce870b07029bfcdb2dce28d959f2815b16f81798"},
	{api.ScriptData, "6a24aa21a9ede2f61c3f71d1defd3fa999dfa36953755c690689799962b48bebd836974e8cf9", "24aa21a9ede2f61c3f71d1defd3fa999dfa36953755c690689799962b48bebd836974e8cf9"},
}

// others are of no kind.
var others = []string{
	"",
	"00", "14", "0014", "20", "0020", "51", "5120", "76", "76a9", "76a914", "a9", "a914", "76a91488ac", "a91487", "88ac", "87", "ac",
	"6b", "696a", "006a", "516a",
	"4104678afdb0fe5548271967f1a67130b7105cd6a828e03909a67962e0ea1f61deb649f6bc3f4cef38c4f35504e51ec112de5c384df7ba0b8d578a4c702b6bf11d5fac",
	"5220" + "79be667ef9dcbbac55a06295ce870b07029bfcdb2dce28d959f2815b16f81798", // another version
	"5114" + "751e76e8199196d454941c45d1b3a323f1433bd6",                         // version 1 of 20 bytes
	"0021" + "031863143c14c5166804bd19203356da136c985678cd4d27a1b8c6329604903262",
	"0014" + "1863143c14c5166804bd19203356da136c985678cd4d27a1b8c6329604903262", // a count that is not there
	"0020" + "751e76e8199196d454941c45d1b3a323f1433bd6",
	"76a914" + "751e76e8199196d454941c45d1b3a323f1433bd6" + "87",
	"a914" + "751e76e8199196d454941c45d1b3a323f1433bd6" + "88ac",
	"a914" + "1863143c14c5166804bd19203356da136c985678cd4d27a1b8c6329604903262" + "87",
	"a820" + "1863143c14c5166804bd19203356da136c985678cd4d27a1b8c6329604903262" + "87",
}

var dataCounts = []int{0, 1, 2, 19, 20, 21, 22, 24, 31, 32, 33, 75, 80, 83, 255, 256, 9999, 10000, 10001, 200000}

func unhex(text string) []byte {
	b, err := hex.DecodeString(text)
	if err != nil {
		panic(err)
	}
	return b
}

func sample(n int) []byte {
	b := make([]byte, n)
	for i := range b {
		b[i] = byte(i*37 + i/256 + 11)
	}
	return b
}

func whole(b []byte) []byte {
	return b[:cap(b)]
}

// counts are of bytes with which there is a script of a kind.
func counts(count int) []int {
	if count < 0 {
		return dataCounts
	}
	return []int{count}
}

func written(ahead string, b []byte, tail string) []byte {
	return slices.Concat(unhex(ahead), b, unhex(tail))
}

// classOf is what the chapter says of a script, read off its hexadecimal text.
func classOf(s []byte) (int, []byte) {
	text := hex.EncodeToString(s)
	for _, f := range forms {
		rest, ok := strings.CutPrefix(text, f.ahead)
		inner, also := strings.CutSuffix(rest, f.tail)
		if ok && also && (f.count < 0 || len(inner) == 2*f.count) {
			return f.kind, unhex(inner)
		}
	}
	return api.ScriptOther, nil
}

func wantClass(t *testing.T, s []byte, kind int, b []byte) {
	t.Helper()
	if k, in := script.Class(s); k != kind || !bytes.Equal(in, b) {
		t.Errorf("Class(%x): %d %x, not %d %x", s, k, in, kind, b)
	}
}

func wantOther(t *testing.T, s []byte) {
	t.Helper()
	wantClass(t, s, api.ScriptOther, nil)
}

func wantNone(t *testing.T, kind int, b []byte) {
	t.Helper()
	if s, ok := script.Make(kind, b); ok || len(s) != 0 {
		t.Errorf("Make(%d, %d bytes): %x %v", kind, len(b), s, ok)
	}
}

// P13.1, P13.2: scripts that everybody knows.
func TestPublished(t *testing.T) {
	for _, x := range published {
		wantClass(t, unhex(x.text), x.kind, unhex(x.bytes))
		if s, ok := script.Make(x.kind, unhex(x.bytes)); !ok || hex.EncodeToString(s) != x.text {
			t.Errorf("Make(%d, %s): %x %v", x.kind, x.bytes, s, ok)
		}
	}
}

// P13.1: of each kind, with bytes of all sorts in it.
func TestClass(t *testing.T) {
	for _, f := range forms {
		for _, n := range counts(f.count) {
			for _, b := range [][]byte{sample(n), make([]byte, n), bytes.Repeat([]byte{0xff}, n), bytes.Repeat([]byte{0x6a}, n)} {
				wantClass(t, written(f.ahead, b, f.tail), f.kind, b)
			}
		}
	}
}

// P13.1: all others, none at all among them.
func TestClassOther(t *testing.T) {
	wantOther(t, nil)
	wantOther(t, []byte{})
	for _, text := range others {
		wantOther(t, unhex(text))
	}
	for n := range 100 {
		wantOther(t, make([]byte, n))
		wantOther(t, bytes.Repeat([]byte{0xff}, n))
	}
}

// P13.1: 6a alone has no bytes.
func TestClassData(t *testing.T) {
	wantClass(t, []byte{0x6a}, api.ScriptData, nil)
	wantClass(t, []byte{0x6a, 0x6a}, api.ScriptData, []byte{0x6a})
	for _, f := range forms[:5] { // one that has the form of another kind behind it
		s := written(f.ahead, sample(f.count), f.tail)
		wantClass(t, append([]byte{0x6a}, s...), api.ScriptData, s)
	}
}

// P13.1: each byte of a form plays its part, at each of its values.
func TestClassTurned(t *testing.T) {
	for _, f := range forms[:5] {
		s := written(f.ahead, sample(f.count), f.tail)
		for at := range s {
			for x := range 256 {
				turned := bytes.Clone(s)
				turned[at] = byte(x)
				kind, b := classOf(turned)
				wantClass(t, turned, kind, b)
			}
		}
	}
	for x := range 256 {
		s := append([]byte{byte(x)}, sample(9)...)
		kind, b := classOf(s)
		wantClass(t, s, kind, b)
	}
}

// P13.1: a byte fewer at either end or in the middle, or some more.
func TestClassLengths(t *testing.T) {
	for _, f := range forms[:5] {
		s := written(f.ahead, sample(f.count), f.tail)
		for n := range s {
			wantOther(t, s[:n])
			wantOther(t, bytes.Clone(s[:n])) // without the rest in the room behind its end
			if n > 0 {
				wantOther(t, s[n:])
			}
		}
		for n := range 70 {
			if n != f.count {
				wantOther(t, written(f.ahead, sample(n), f.tail))
			}
		}
		for n := 1; n < 40; n++ {
			wantOther(t, append(bytes.Clone(s), sample(n)...))
			wantOther(t, append(bytes.Clone(s), make([]byte, n)...))
		}
		wantOther(t, append([]byte{0}, s...))
		wantOther(t, append(bytes.Clone(s), s...))
	}
}

// P13.1: heads, counts and tails of all kinds put together anyhow.
func TestClassMixed(t *testing.T) {
	for _, head := range forms {
		for _, tail := range forms {
			for _, n := range []int{0, 1, 18, 19, 20, 21, 22, 31, 32, 33} {
				s := written(head.ahead, sample(n), tail.tail)
				kind, b := classOf(s)
				wantClass(t, s, kind, b)
			}
		}
	}
}

func TestClassAny(t *testing.T) {
	r := rand.New(rand.NewSource(1))
	first := []byte{0x76, 0xa9, 0x14, 0x00, 0x20, 0x51, 0x6a, 0x88, 0xac, 0x87}
	for range 20000 {
		s := make([]byte, r.Intn(40))
		r.Read(s)
		for i := range s[:min(4, len(s))] {
			s[i] = first[r.Intn(len(first))]
		}
		kind, b := classOf(s)
		wantClass(t, s, kind, b)
	}
}

// P13.2: of each kind.
func TestMake(t *testing.T) {
	for _, f := range forms {
		for _, n := range counts(f.count) {
			for _, b := range [][]byte{sample(n), make([]byte, n), bytes.Repeat([]byte{0xff}, n)} {
				if s, ok := script.Make(f.kind, b); !ok || !bytes.Equal(s, written(f.ahead, b, f.tail)) {
					t.Errorf("Make(%d, %x): %x %v", f.kind, b, s, ok)
				}
			}
		}
	}
	for _, b := range [][]byte{nil, {}} {
		if s, ok := script.Make(api.ScriptData, b); !ok || !bytes.Equal(s, []byte{0x6a}) {
			t.Errorf("of data without bytes: %x %v", s, ok)
		}
	}
}

// P13.2: as many bytes as the kind has, no more and no fewer.
func TestMakeCounts(t *testing.T) {
	for _, f := range forms[:5] {
		wantNone(t, f.kind, nil)
		for n := range 300 {
			if n != f.count {
				wantNone(t, f.kind, sample(n))
			}
		}
		wantNone(t, f.kind, sample(1<<16+f.count))
	}
}

// P13.2: no script of another kind, or of one that is none.
func TestMakeNoKind(t *testing.T) {
	for _, kind := range []int{api.ScriptOther, -1, -2, -6, 7, 8, 20, 32, 256, 257, 1<<32 + 1, 1 << 62, math.MaxInt, math.MinInt, math.MinInt + 1} {
		wantNone(t, kind, nil)
		for _, n := range []int{0, 1, 19, 20, 21, 31, 32, 33, 100} {
			wantNone(t, kind, sample(n))
		}
	}
}

// P13.3: there and back.
func TestBack(t *testing.T) {
	r := rand.New(rand.NewSource(2))
	for range 1000 {
		for _, f := range forms {
			n := f.count
			if n < 0 {
				n = r.Intn(200)
			}
			b := make([]byte, n)
			r.Read(b)
			s, ok := script.Make(f.kind, b)
			if !ok {
				t.Fatalf("Make(%d, %x)", f.kind, b)
			}
			wantClass(t, s, f.kind, b)
			kind, in := script.Class(s)
			if again, ok := script.Make(kind, in); !ok || !bytes.Equal(again, s) {
				t.Fatalf("%x: %x %v", s, again, ok)
			}
		}
	}
	for _, text := range others {
		kind, in := script.Class(unhex(text))
		wantNone(t, kind, in)
	}
}

// samples are scripts of all kinds, and of none.
func samples() [][]byte {
	var list [][]byte
	for _, f := range forms {
		list = append(list, written(f.ahead, sample(max(f.count, 0)), f.tail), written(f.ahead, sample(45), f.tail))
	}
	for _, text := range others {
		list = append(list, unhex(text))
	}
	return list
}

// What is handed in is not changed, the room behind its end included; no answer shares memory with it, spare room included.
func TestClassMemory(t *testing.T) {
	for _, x := range samples() {
		s := slices.Concat(x, sample(50))[:len(x)]
		before := bytes.Clone(whole(s))
		_, b := script.Class(s)
		if !bytes.Equal(whole(s), before) {
			t.Errorf("%x was changed", x)
		}
		kept := bytes.Clone(b)
		clear(whole(s))
		if !bytes.Equal(b, kept) {
			t.Errorf("%x: its bytes are a piece of it", x)
		}
		copy(whole(s), before)
		clear(whole(b))
		if !bytes.Equal(whole(s), before) {
			t.Errorf("%x: its bytes, or the room behind, are a piece of it", x)
		}
	}
}

func TestMakeMemory(t *testing.T) {
	for _, f := range forms {
		for _, n := range []int{0, 20, 32} {
			b := slices.Concat(sample(n), sample(50))[:n]
			before := bytes.Clone(whole(b))
			s, ok := script.Make(f.kind, b)
			if !bytes.Equal(whole(b), before) {
				t.Errorf("%d, %d bytes: they were changed", f.kind, n)
			}
			kept := bytes.Clone(s)
			clear(whole(b))
			if !bytes.Equal(s, kept) {
				t.Errorf("%d, %d bytes: the script is a piece of them", f.kind, n)
			}
			copy(whole(b), before)
			clear(whole(s))
			if !bytes.Equal(whole(b), before) {
				t.Errorf("%d, %d bytes: the script, or the room behind, is a piece of them", f.kind, n)
			}
			if again, also := script.Make(f.kind, b); also != ok || !bytes.Equal(again, kept) {
				t.Errorf("%d, %d bytes: a script that was changed changed another one", f.kind, n)
			}
		}
	}
}
