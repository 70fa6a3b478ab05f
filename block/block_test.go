package block_test

import (
	"bytes"
	"crypto/sha256"
	"encoding/hex"
	"fmt"
	"math"
	"math/rand"
	"reflect"
	"slices"
	"testing"

	"sporran/api"
	"sporran/block"
	"sporran/header"
	"sporran/size"
	"sporran/tx"
)

const (
	mostTxs     = 2000
	headerBytes = 80
)

func sample(n int) []byte {
	b := make([]byte, n)
	for i := range b {
		b[i] = byte(i*37 + i/256 + 11)
	}
	return b
}

func whole[T any](l []T) []T {
	return l[:cap(l)]
}

func doubleSum(b []byte) api.Hash {
	first := sha256.Sum256(b)
	return sha256.Sum256(first[:])
}

// reversed is a hash as it is told among people: its bytes the other way round.
func reversed(t *testing.T, text string) api.Hash {
	t.Helper()
	b, err := hex.DecodeString(text)
	if err != nil {
		t.Fatal(err)
	}
	slices.Reverse(b)
	return api.Hash(b)
}

// distinct are n hashes, no two of which are the same.
func distinct(n int) []api.Hash {
	ids := make([]api.Hash, n)
	for i := range ids {
		ids[i] = doubleSum([]byte(fmt.Sprint("id ", i)))
	}
	return ids
}

// root is what the chapter says, word by word.
func root(ids []api.Hash) (api.Hash, bool) {
	if len(ids) == 0 {
		return api.Hash{}, false
	}
	if len(ids) == 1 {
		return ids[0], false
	}
	var above []api.Hash
	same := false
	for len(ids) > 0 {
		pair := [2]api.Hash{ids[0], ids[0]}
		if len(ids) > 1 {
			pair[1] = ids[1]
			same = same || pair[0] == pair[1]
		}
		above = append(above, doubleSum(append(pair[0][:], pair[1][:]...)))
		ids = ids[min(2, len(ids)):]
	}
	sum, others := root(above)
	return sum, others || same
}

// simple is a transaction of which each number makes another one.
func simple(n int) api.Tx {
	return api.Tx{
		Version: uint32(n),
		In:      []api.In{{Prev: api.Point{Index: uint32(n)}, Script: []byte{1}}},
		Out:     []api.Out{{Value: int64(n), Script: []byte{0x51, byte(n)}}},
	}
}

// blind is a transaction with witnesses.
func blind(n int) api.Tx {
	x := simple(n)
	x.In = append(x.In, api.In{Witness: [][]byte{sample(n % 9), nil}})
	return x
}

// bad is a transaction that can't be written.
func bad() api.Tx {
	return api.Tx{In: []api.In{{}}, Out: []api.Out{{Value: -1}}}
}

func simples(n int) []api.Tx {
	l := make([]api.Tx, n)
	for i := range l {
		l[i] = simple(i + 1)
	}
	return l
}

func someHeader() api.Header {
	return api.Header{Version: 0x04030201, Prev: api.Hash(sample(32)), Merkle: api.Hash(sample(64)[32:]), Time: 0xa4a3a2a1, Bits: 0xb4b3b2b1, Nonce: 0xc4c3c2c1}
}

// rooted is a block whose header has its transactions' root.
func rooted(txs ...api.Tx) api.Block {
	b := api.Block{Header: someHeader(), Txs: txs}
	var ids []api.Hash
	for _, x := range txs {
		id, _ := tx.ID(x)
		ids = append(ids, id)
	}
	b.Header.Merkle, _ = root(ids)
	return b
}

// written is what the chapter says that a block's bytes are.
func written(t *testing.T, b api.Block) []byte {
	t.Helper()
	w := slices.Concat(header.Encode(b.Header), size.Encode(uint64(len(b.Txs))))
	for _, x := range b.Txs {
		one, e := tx.Encode(x, true)
		if e != api.OK {
			t.Fatal(e)
		}
		w = append(w, one...)
	}
	return w
}

// stuffed is a block of just n bytes: its header, two simple transactions, and one with as many outputs as it takes.
func stuffed(t *testing.T, n int) api.Block {
	t.Helper()
	b := rooted(simple(1), api.Tx{In: []api.In{{}}}, simple(2))
	outs := &b.Txs[1].Out
	for len(written(t, b))+20000 < n {
		*outs = append(*outs, api.Out{Script: sample(api.MaxScript - 1)})
	}
	*outs = append(*outs, api.Out{Script: sample(5000)}, api.Out{})
	missing := n - len(written(t, b))
	(*outs)[len(*outs)-1].Script = sample(min(missing-2, api.MaxScript)) // its count has two bytes more
	missing = n - len(written(t, b))
	(*outs)[len(*outs)-2].Script = sample(5000 + missing)
	if got := len(written(t, b)); got != n {
		t.Fatalf("%d bytes, not %d", got, n)
	}
	return b
}

// same holds blocks against each other by their bytes, of which each part has its own.
func same(t *testing.T, a, b api.Block) bool {
	t.Helper()
	return a.Header == b.Header && len(a.Txs) == len(b.Txs) && bytes.Equal(written(t, a), written(t, b))
}

func wantWritten(t *testing.T, name string, b api.Block) {
	t.Helper()
	want := written(t, b)
	w, e := block.Encode(b)
	if e != api.OK || !bytes.Equal(w, want) {
		t.Errorf("%s: %d bytes, not %d, %v", name, len(w), len(want), e)
	}
	r, e := block.Decode(want)
	if e != api.OK || !same(t, r, b) {
		t.Errorf("%s: %d transactions, %v", name, len(r.Txs), e)
	}
}

func wantNotWritten(t *testing.T, name string, b api.Block, want api.Errno) {
	t.Helper()
	if w, e := block.Encode(b); e != want || len(w) != 0 {
		t.Errorf("%s: %d bytes, %v, not %v", name, len(w), e, want)
	}
}

func wantNotRead(t *testing.T, name string, w []byte, want api.Errno) {
	t.Helper()
	if b, e := block.Decode(w); e != want || !reflect.DeepEqual(b, api.Block{}) {
		t.Errorf("%s: %v %d transactions, %v, not %v", name, b.Header, len(b.Txs), e, want)
	}
}

// P8.1, P8.4: blocks with and without witnesses, there and back, at the limits of a count.
func TestBack(t *testing.T) {
	for _, n := range []int{0, 1, 2, 3, 0xfc, 0xfd, 0xfe, 1999, 2000} {
		wantWritten(t, fmt.Sprint(n, " transactions"), api.Block{Header: someHeader(), Txs: simples(n)})
	}
	wantWritten(t, "nothing", api.Block{})
	wantWritten(t, "an empty list", api.Block{Txs: []api.Tx{}})
	wantWritten(t, "witnesses", rooted(blind(1), simple(2), blind(3)))
	wantWritten(t, "the same twice", rooted(simple(1), simple(1)))
}

// P8.1: bytes written by hand: noughts, and two transactions.
func TestWrittenByHand(t *testing.T) {
	input := string(make([]byte, 36)) + "\x00\x01\x02\x03\x04"
	x := api.Tx{Version: 7, In: []api.In{{Sequence: 0x04030201}}}
	y := x
	y.In = []api.In{{Sequence: 0x04030201, Witness: [][]byte{{9}}}}
	want := string(make([]byte, headerBytes)) + "\x02" +
		"\x07\x00\x00\x00" + "\x00\x01" + "\x01" + input + "\x00" + "\x01\x01\x09" + "\x00\x00\x00\x00" +
		"\x07\x00\x00\x00" + "\x01" + input + "\x00" + "\x00\x00\x00\x00"
	b := api.Block{Txs: []api.Tx{y, x}}
	if w, e := block.Encode(b); e != api.OK || string(w) != want {
		t.Errorf("%x %v", w, e)
	}
	if r, e := block.Decode([]byte(want)); e != api.OK || !same(t, r, b) {
		t.Errorf("%v %v", r, e)
	}
}

// P8.1: just MaxPayload bytes, and one more.
func TestLong(t *testing.T) {
	wantWritten(t, "one below the limit", stuffed(t, api.MaxPayload-1))
	wantWritten(t, "at the limit", stuffed(t, api.MaxPayload))
	for _, n := range []int{api.MaxPayload + 1, api.MaxPayload + 2, 2 * api.MaxPayload} {
		b := stuffed(t, n)
		wantNotWritten(t, fmt.Sprint(n, " bytes"), b, api.ErrLong)
		wantNotRead(t, fmt.Sprint(n, " bytes"), written(t, b), api.ErrLong)
	}
	over := stuffed(t, api.MaxPayload+1)
	over.Txs = []api.Tx{over.Txs[1], over.Txs[0], over.Txs[2]} // the last one alone goes over
	wantNotWritten(t, "one more in the last transaction", over, api.ErrLong)
}

// P8.1: more than 2000 transactions, and ones that can't be written, ahead of too many bytes.
func TestNotWritten(t *testing.T) {
	wantNotWritten(t, "2001 transactions", api.Block{Txs: simples(mostTxs + 1)}, api.ErrArg)
	wantNotWritten(t, "100000 transactions", api.Block{Txs: make([]api.Tx, 100000)}, api.ErrArg)
	for i := range 4 {
		wantNotWritten(t, "one that can't be", api.Block{Txs: slices.Insert(simples(3), i, bad())}, api.ErrArg)
		wantNotWritten(t, "one without inputs", api.Block{Txs: slices.Insert(simples(3), i, api.Tx{})}, api.ErrArg)
		over := stuffed(t, 2*api.MaxPayload)
		over.Txs = slices.Insert(over.Txs, min(i, len(over.Txs)), bad())
		wantNotWritten(t, "too long, and one that can't be", over, api.ErrArg)
	}
	over := stuffed(t, 2*api.MaxPayload)
	over.Txs = append(over.Txs, simples(mostTxs-2)...)
	wantNotWritten(t, "too long, and 2001 transactions", over, api.ErrArg)
	over.Txs = over.Txs[1:]
	wantNotWritten(t, "too long, and 2000 transactions", over, api.ErrLong)
}

// P8.1: a block cut short at every place, and bytes behind its end.
func TestReadEnds(t *testing.T) {
	b := rooted(simple(1), blind(2), blind(3))
	w := written(t, b)
	for n := range w {
		wantNotRead(t, fmt.Sprint("cut at ", n), w[:n], api.ErrShort) // the rest stands in the room behind the end
		wantNotRead(t, fmt.Sprint("cut at ", n), bytes.Clone(w[:n]), api.ErrShort)
	}
	for _, behind := range [][]byte{{0}, {0xff}, sample(1000), w} {
		wantNotRead(t, "bytes behind", slices.Concat(w, behind), api.ErrTrail)
	}
	wantNotRead(t, "a byte behind none", make([]byte, headerBytes+2), api.ErrTrail)
	wantNotRead(t, "nothing", nil, api.ErrShort)
}

// P8.1: which of two errors comes first where both hold.
func TestReadFirst(t *testing.T) {
	h := header.Encode(someHeader())
	join := func(l ...string) []byte {
		b := bytes.Clone(h)
		for _, x := range l {
			b = append(b, x...)
		}
		return b
	}
	good := string(written(t, rooted(simple(1)))[headerBytes+1:])
	mark := good[:4] + "\x00\x02"                      // of no form
	full := good[:4] + "\xfd\xd1\x07"                  // 2001 inputs
	negative := good[:4+1+42+1] + "\xff\xff\xff\xff" + // a value of 2^63 and above
		"\xff\xff\xff\xff"
	fill := string(make([]byte, api.MaxPayload))
	for _, x := range []struct {
		name string
		w    []byte
		want api.Errno
	}{
		{"too long, all noughts", make([]byte, api.MaxPayload+1), api.ErrLong},
		{"too long, a count's form", join("\xfd\x00\x00", fill), api.ErrLong},
		{"too long, 2001 transactions", join("\xfd\xd1\x07", fill), api.ErrLong},
		{"too long, a bad transaction", join("\x01", mark, fill), api.ErrLong},
		{"as long as may be, bytes behind", join("\x00", fill)[:api.MaxPayload], api.ErrTrail},
		{"79 bytes", h[:headerBytes-1], api.ErrShort},
		{"no count", h, api.ErrShort},
		{"half a count", join("\xfd\xd1"), api.ErrShort},
		{"a count's form", join("\xfd\x01\x00", mark), api.ErrForm},
		{"a count's form, too many", join("\xfe\xd1\x07\x00\x00"), api.ErrForm},
		{"2001 transactions", join("\xfd\xd1\x07"), api.ErrFull},
		{"2001 transactions, the first one bad", join("\xfd\xd1\x07", mark), api.ErrFull},
		{"2^63 transactions", join("\xff\x00\x00\x00\x00\x00\x00\x00\x80", good), api.ErrFull},
		{"2000 transactions, none there", join("\xfd\xd0\x07"), api.ErrShort},
		{"one less than the count says", join("\x02", good), api.ErrShort},
		{"one more than the count says", join("\x01", good, good), api.ErrTrail},
		{"a mark, then too many inputs", join("\x03", good, mark, full), api.ErrForm},
		{"too many inputs, then a mark", join("\x03", good, full, mark), api.ErrFull},
		{"a value, then nothing", join("\x02", negative), api.ErrForm},
		{"a value, then bytes behind", join("\x01", negative, fill[:1000]), api.ErrForm},
		{"cut short in the first, for the second is bad", join("\x02", good[:len(good)-1]), api.ErrShort},
		{"the second one bad, bytes behind", join("\x02", good, mark, good), api.ErrForm},
		{"the second one full, bytes behind", join("\x02", good, full, good), api.ErrFull},
	} {
		wantNotRead(t, x.name, x.w, x.want)
	}
}

// P8.2: a real block's root (the chain's 100000th).
func TestMerkleKnown(t *testing.T) {
	ids := []api.Hash{
		reversed(t, "8c14f0db3df150123e6f3dbbf30f8b955a8249b62ac1d1ff16284aefa3d06d87"),
		reversed(t, "fff2525b8931402dd09222c50775608f75787bd2b87e56995a7bdd30f79702c4"),
		reversed(t, "6359f0868171b1d194cbee1af2f16ea598ae8fad666d9b012c8ed2b79a236ec4"),
		reversed(t, "e9a66845e05d5abc0ad04ec80f774a7e585c6e8db975962d069a522137b80c1d"),
	}
	want := reversed(t, "f3e94742aca4b5ef85488dc37c06c3282295ffec960994b2c0d5ac2a25a95766")
	if got, others := block.Merkle(ids); got != want || others {
		t.Errorf("%x %v", got, others)
	}
}

func wantRoot(t *testing.T, name string, ids []api.Hash) {
	t.Helper()
	want, may := root(ids)
	if got, others := block.Merkle(ids); got != want || others != may {
		t.Errorf("%s, %d hashes: %x %v, not %x %v", name, len(ids), got, others, want, may)
	}
}

// P8.2: roots of few hashes, written out.
func TestMerkleByHand(t *testing.T) {
	if got, others := block.Merkle(nil); got != (api.Hash{}) || others {
		t.Errorf("of none: %x %v", got, others)
	}
	if got, others := block.Merkle([]api.Hash{}); got != (api.Hash{}) || others {
		t.Errorf("of an empty list: %x %v", got, others)
	}
	pair := func(a, b api.Hash) api.Hash { return doubleSum(append(a[:], b[:]...)) }
	l := distinct(5)
	a, b, c, d, e := l[0], l[1], l[2], l[3], l[4]
	for _, x := range []struct {
		ids    []api.Hash
		want   api.Hash
		others bool
	}{
		{[]api.Hash{a}, a, false},
		{[]api.Hash{{}}, api.Hash{}, false},
		{[]api.Hash{a, b}, pair(a, b), false},
		{[]api.Hash{b, a}, pair(b, a), false},
		{[]api.Hash{a, a}, pair(a, a), true},
		{[]api.Hash{a, b, c}, pair(pair(a, b), pair(c, c)), false},
		{[]api.Hash{a, b, b}, pair(pair(a, b), pair(b, b)), false},
		{[]api.Hash{a, a, b}, pair(pair(a, a), pair(b, b)), true},
		{[]api.Hash{a, a, a}, pair(pair(a, a), pair(a, a)), true},
		{[]api.Hash{a, b, c, c}, pair(pair(a, b), pair(c, c)), true},
		{[]api.Hash{a, b, b, c}, pair(pair(a, b), pair(b, c)), false},
		{[]api.Hash{a, b, a, b}, pair(pair(a, b), pair(a, b)), true},
		{[]api.Hash{a, b, b, a}, pair(pair(a, b), pair(b, a)), false},
		{[]api.Hash{a, b, c, d, e}, pair(pair(pair(a, b), pair(c, d)), pair(pair(e, e), pair(e, e))), false},
		{[]api.Hash{a, b, c, d, a, b}, pair(pair(pair(a, b), pair(c, d)), pair(pair(a, b), pair(a, b))), false},
		{[]api.Hash{a, b, c, d, e, e}, pair(pair(pair(a, b), pair(c, d)), pair(pair(e, e), pair(e, e))), true},
	} {
		if got, others := block.Merkle(x.ids); got != x.want || others != x.others {
			t.Errorf("%d hashes: %x %v, not %x %v", len(x.ids), got, others, x.want, x.others)
		}
	}
}

// P8.2: roots of 0 to 70 hashes and more, of which none are the same, or many.
func TestMerkle(t *testing.T) {
	r := rand.New(rand.NewSource(1))
	for n := range 71 {
		wantRoot(t, "distinct", distinct(n))
		if _, others := block.Merkle(distinct(n)); others {
			t.Errorf("%d distinct hashes: may be of others", n)
		}
	}
	for _, n := range []int{127, 128, 129, 1000, mostTxs, mostTxs + 1, 5000} {
		wantRoot(t, "distinct", distinct(n))
	}
	few := distinct(3)
	for range 5000 {
		ids := make([]api.Hash, r.Intn(12))
		for i := range ids {
			ids[i] = few[r.Intn(len(few))]
		}
		wantRoot(t, "of three", ids)
	}
	for n := range 40 {
		for i := range n {
			for j := range i {
				ids := distinct(n)
				ids[i] = ids[j]
				wantRoot(t, fmt.Sprint(j, " once more at ", i), ids)
			}
		}
	}
}

// P8.2, P8.5: the last ones written once more: told, where the root is the same.
func TestMerkleOnceMore(t *testing.T) {
	told := 0
	for n := range 41 {
		ids := distinct(n)
		want, _ := block.Merkle(ids)
		for k := 1; k <= n; k++ {
			more := slices.Concat(ids, ids[n-k:])
			wantRoot(t, fmt.Sprint("the last ", k), more)
			got, others := block.Merkle(more)
			if got != want {
				continue
			}
			told++
			if !others {
				t.Errorf("the last %d of %d once more: not told", k, n)
			}
		}
	}
	if told < 30 {
		t.Errorf("only %d had the same root", told)
	}
}

// P8.3: blocks that are right, whatever else their headers say.
func TestCheck(t *testing.T) {
	for _, n := range []int{1, 2, 3, 4, 5, 9, 100, 1999, mostTxs} {
		if e := block.Check(rooted(simples(n)...)); e != api.OK {
			t.Errorf("%d transactions: %v", n, e)
		}
	}
	if e := block.Check(rooted(blind(1), blind(2), simple(3))); e != api.OK {
		t.Errorf("witnesses: %v", e)
	}
	long := rooted(stuffed(t, 2*api.MaxPayload).Txs...)
	if e := block.Check(long); e != api.OK {
		t.Errorf("more bytes than a message has: %v", e)
	}
	bareHeader := rooted(simple(1))
	bareHeader.Header = api.Header{Merkle: bareHeader.Header.Merkle}
	if e := block.Check(bareHeader); e != api.OK {
		t.Errorf("a header of noughts but for the root: %v", e)
	}
}

// P8.3: witnesses play no part in the root.
func TestCheckWitness(t *testing.T) {
	b := rooted(blind(1), blind(2))
	b.Txs[1].In[1].Witness[0] = []byte("another one")
	if e := block.Check(b); e != api.OK {
		t.Error(e)
	}
}

func wantBlock(t *testing.T, name string, b api.Block) {
	t.Helper()
	if e := block.Check(b); e != api.ErrBlock {
		t.Errorf("%s: %v", name, e)
	}
}

// P8.3: each reason alone why a block can't be.
func TestCheckNot(t *testing.T) {
	wantBlock(t, "nothing", api.Block{})
	wantBlock(t, "no transaction", rooted())
	wantBlock(t, "2001 transactions", rooted(simples(mostTxs+1)...))
	tooMany := blind(1)
	tooMany.In[0].Witness = make([][]byte, 101)
	wantBlock(t, "one with too many witnesses", rooted(tooMany))
	for at := range 32 {
		b := rooted(simples(3)...)
		b.Header.Merkle[at] ^= 0x10
		wantBlock(t, fmt.Sprint("another root at byte ", at), b)
	}
	b := rooted(simples(3)...)
	b.Txs[2].Lock++
	wantBlock(t, "another transaction", b)
	b = rooted(simples(2)...)
	b.Txs[0], b.Txs[1] = b.Txs[1], b.Txs[0]
	wantBlock(t, "another order", b)
}

// P8.3: one that can't be written, beside the root with each ID that could be thought its.
func TestCheckBad(t *testing.T) {
	raw := bytes.Join([][]byte{make([]byte, 4), {1}, make([]byte, 41), {1}, bytes.Repeat([]byte{0xff}, 8), make([]byte, 1+4)}, nil)
	for i := range 4 {
		b := api.Block{Header: someHeader(), Txs: slices.Insert(simples(3), i, bad())}
		b.Header.Merkle = rooted(simples(3)...).Header.Merkle
		wantBlock(t, "the others' root", b)
		for _, id := range []api.Hash{{}, doubleSum(nil), doubleSum(raw)} {
			var ids []api.Hash
			for _, x := range simples(3) {
				one, _ := tx.ID(x)
				ids = append(ids, one)
			}
			b.Header.Merkle, _ = root(slices.Insert(ids, i, id))
			wantBlock(t, "a root of all", b)
		}
	}
}

// P8.3: roots that may be of others.
func TestCheckTwins(t *testing.T) {
	a, b, c := simple(1), simple(2), simple(3)
	wantBlock(t, "a, a", rooted(a, a))
	wantBlock(t, "a, b, c, c", rooted(a, b, c, c))
	wantBlock(t, "a, b, a, b", rooted(a, b, a, b))
	if e := block.Check(rooted(a, b, b)); e != api.OK {
		t.Errorf("a, b, b: %v", e)
	}
	if e := block.Check(rooted(a, b, c)); e != api.OK {
		t.Errorf("a, b, c: %v", e)
	}
}

// forged is a transaction of just so many bytes without witnesses.
func forged(t *testing.T, n int, outs []api.Out, witness [][]byte) api.Tx {
	t.Helper()
	x := api.Tx{In: []api.In{{Witness: witness}}, Out: outs}
	w, e := tx.Encode(x, false)
	if e != api.OK || len(w) > n {
		t.Fatal(len(w), e)
	}
	x.In[0].Script = make([]byte, n-len(w))
	return x
}

// P8.3: a transaction of just 64 bytes without witnesses, alone and among others.
func TestCheckForged(t *testing.T) {
	for _, outs := range [][]api.Out{nil, {{}}, {{Value: 7, Script: []byte{1, 2}}}} {
		for _, witness := range [][][]byte{nil, {nil}, {{1, 2, 3}}} {
			for n := 63; n <= 65; n++ {
				x := forged(t, n, outs, witness)
				for i := range 3 {
					b := rooted(slices.Insert(simples(2), i, x)...)
					if n == 64 {
						wantBlock(t, "64 bytes", b)
					} else if e := block.Check(b); e != api.OK {
						t.Errorf("%d bytes: %v", n, e)
					}
				}
			}
		}
	}
	wantBlock(t, "64 bytes alone", rooted(forged(t, 64, nil, nil)))
	with := forged(t, 60, nil, [][]byte{nil}) // two bytes more for the form, two for the witness
	if w, e := tx.Encode(with, true); e != api.OK || len(w) != 64 {
		t.Fatal(len(w), e)
	}
	if e := block.Check(rooted(with)); e != api.OK {
		t.Errorf("64 bytes with witnesses: %v", e)
	}
}

// span is where a list's memory, room behind its end included, begins and ends.
type span struct{ from, to uintptr }

// spans are those of all lists within a value.
func spans(v reflect.Value) []span {
	var l []span
	switch v.Kind() {
	case reflect.Slice:
		if v.Cap() > 0 {
			l = append(l, span{v.Pointer(), v.Pointer() + uintptr(v.Cap())*v.Type().Elem().Size()})
		}
		for i := range v.Len() {
			l = append(l, spans(v.Index(i))...)
		}
	case reflect.Struct:
		for i := range v.NumField() {
			l = append(l, spans(v.Field(i))...)
		}
	}
	return l
}

// wantApart asks whether no two lists within all these share memory.
func wantApart(t *testing.T, name string, all ...any) {
	t.Helper()
	var l []span
	for _, x := range all {
		l = append(l, spans(reflect.ValueOf(x))...)
	}
	slices.SortFunc(l, func(a, b span) int { return int(a.from) - int(b.from) })
	for i := 1; i < len(l); i++ {
		if l[i].from < l[i-1].to {
			t.Errorf("%s: two of %d lists share memory", name, len(l))
			return
		}
	}
}

// copied is a value with lists of its own, in which what stands behind their ends are items, too.
func copied(v reflect.Value) reflect.Value {
	c := reflect.New(v.Type()).Elem()
	c.Set(v)
	switch v.Kind() {
	case reflect.Slice:
		if v.Cap() == 0 {
			return c
		}
		c.Set(reflect.MakeSlice(v.Type(), v.Cap(), v.Cap()))
		reflect.Copy(c, v.Slice3(0, v.Cap(), v.Cap()))
		for i := range c.Len() {
			c.Index(i).Set(copied(c.Index(i)))
		}
	case reflect.Struct:
		for i := range c.NumField() {
			c.Field(i).Set(copied(c.Field(i)))
		}
	}
	return c
}

func opened[T any](x T) T {
	return copied(reflect.ValueOf(x)).Interface().(T)
}

// roomy is a list with room behind its end, in which something stands.
func roomy[T any](l []T, behind ...T) []T {
	return append(slices.Clone(l), behind...)[:len(l)]
}

// roomyBlock is a block whose lists, and its transactions' lists, have room behind their ends.
func roomyBlock(b api.Block) api.Block {
	txs := slices.Clone(b.Txs)
	for i, x := range txs {
		txs[i].In = roomy(x.In, api.In{Script: sample(4)})
		txs[i].Out = roomy(x.Out, api.Out{Script: sample(6)})
		for j, in := range txs[i].In {
			txs[i].In[j].Script = roomy(in.Script, sample(7)...)
			txs[i].In[j].Witness = roomy(in.Witness, sample(3))
		}
		for j, out := range txs[i].Out {
			txs[i].Out[j].Script = roomy(out.Script, sample(8)...)
		}
	}
	b.Txs = roomy(txs, simple(77), blind(78))
	return b
}

func blocks(t *testing.T) []api.Block {
	return []api.Block{{}, rooted(), rooted(simple(1)), rooted(simple(1), blind(2), blind(3)), rooted(simple(1), simple(1)), rooted(bad(), blind(2)), stuffed(t, api.MaxPayload), stuffed(t, api.MaxPayload+1)}
}

// What is handed in is not changed, the room behind the ends of all lists included.
func TestArgumentsStay(t *testing.T) {
	for i, b := range blocks(t) {
		arg := roomyBlock(b)
		before := opened(arg)
		block.Check(arg)
		w, e := block.Encode(arg)
		if !reflect.DeepEqual(opened(arg), before) {
			t.Errorf("block %d was changed", i)
		}
		if e != api.OK {
			continue
		}
		for _, cut := range []int{len(w), len(w) - 1, headerBytes, 1} {
			bytesIn := roomy(w[:cut], sample(300)...)
			before := bytes.Clone(whole(bytesIn))
			block.Decode(bytesIn)
			if !bytes.Equal(whole(bytesIn), before) {
				t.Errorf("block %d's bytes were changed", i)
			}
		}
	}
	for n := range 20 {
		ids := roomy(distinct(n), distinct(3)...)
		before := slices.Clone(whole(ids))
		block.Merkle(ids)
		if !slices.Equal(whole(ids), before) {
			t.Errorf("%d hashes were changed", n)
		}
	}
}

// No answer shares memory with what came in, with another answer, or with another list of its own.
func TestAnswersNew(t *testing.T) {
	for i, b := range blocks(t) {
		arg := roomyBlock(b)
		first, e := block.Encode(arg)
		second, _ := block.Encode(arg)
		wantApart(t, fmt.Sprint("block ", i), arg, first, second)
		if e != api.OK {
			continue
		}
		w := roomy(first, sample(300)...)
		one, e := block.Decode(w)
		other, f := block.Decode(w)
		if e != api.OK || f != api.OK {
			t.Fatal(i, e, f)
		}
		wantApart(t, fmt.Sprint("block ", i, " read"), w, one, other)
	}
}

// No answer hangs on what becomes of its argument later.
func TestArgumentsNotKept(t *testing.T) {
	b := rooted(blind(2), simple(1))
	w := written(t, b)
	r, e := block.Decode(w)
	clear(w)
	if e != api.OK || !same(t, r, b) {
		t.Error("the block hangs on its bytes")
	}
	want := written(t, b)
	w, e = block.Encode(b)
	b.Txs[0].In[1].Witness[0][0] ^= 1
	b.Txs[1] = api.Tx{}
	if e != api.OK || !bytes.Equal(w, want) {
		t.Error("the bytes hang on the block")
	}
}

// Bytes of any kind end, and panic nowhere; those of a block are its bytes again.
func TestAnyBytes(t *testing.T) {
	r := rand.New(rand.NewSource(2))
	read := 0
	for range 20000 {
		w := written(t, rooted(simple(r.Intn(99)), blind(r.Intn(99))))
		for range r.Intn(3) {
			w[headerBytes+r.Intn(len(w)-headerBytes)] = []byte{0, 1, 2, 0xfd, 0xff, byte(r.Intn(256))}[r.Intn(6)]
		}
		b, e := block.Decode(w)
		if e != api.OK {
			wantNotRead(t, "any bytes", w, e)
			continue
		}
		read++
		if again, e := block.Encode(b); e != api.OK || !bytes.Equal(again, w) {
			t.Fatalf("%x: %x %v", w, again, e)
		}
	}
	if read < 5000 {
		t.Errorf("only %d were blocks", read)
	}
}

// Things made by hand end, and panic nowhere.
func TestMadeByHand(t *testing.T) {
	odd := []api.Tx{{}, bad(), {In: make([]api.In, 2001)}, {In: []api.In{{}}, Out: []api.Out{{Value: math.MinInt64}}}}
	for _, x := range odd {
		wantNotWritten(t, "by hand", api.Block{Txs: []api.Tx{x}}, api.ErrArg)
		wantBlock(t, "by hand", rooted(x))
	}
}
