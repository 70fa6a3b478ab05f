package tx_test

import (
	"bytes"
	"crypto/sha256"
	"encoding/binary"
	"encoding/hex"
	"fmt"
	"math"
	"math/rand"
	"reflect"
	"slices"
	"testing"

	"sporran/api"
	"sporran/tx"
)

const (
	mostParts     = 2000
	mostWitnesses = 100
)

// firstBytes are the real chain's first transaction's, firstID its ID.
const (
	firstBytes = "01000000" +
		"01" + "0000000000000000000000000000000000000000000000000000000000000000" + "ffffffff" +
		"4d04ffff001d0104455468652054696d65732030332f4a616e2f32303039204368616e63656c6c6f72206f6e206272696e6b206f66207365636f6e64206261696c6f757420666f722062616e6b73" +
		"ffffffff" +
		"01" + "00f2052a01000000" +
		"434104678afdb0fe5548271967f1a67130b7105cd6a828e03909a67962e0ea1f61deb649f6bc3f4cef38c4f35504e51ec112de5c384df7ba0b8d578a4c702b6bf11d5fac" +
		"00000000"
	firstID = "3ba3edfd7a7b12b27ac72c3e67768f617fc81bc3888a51323a9fb8aa4b1e5e4a"
)

func sample(n int) []byte {
	b := make([]byte, n)
	for i := range b {
		b[i] = byte(i*37 + i/256 + 11)
	}
	return b
}

func whole[T any](l []T) []T {
	return l[:cap(l)]
}

func fromHex(t *testing.T, text string) []byte {
	t.Helper()
	b, err := hex.DecodeString(text)
	if err != nil {
		t.Fatal(err)
	}
	return b
}

func doubleSum(b []byte) api.Hash {
	first := sha256.Sum256(b)
	return sha256.Sum256(first[:])
}

// plain has one input and no output.
func plain() api.Tx {
	return api.Tx{In: []api.In{{}}}
}

// full is a transaction whose fields all have bytes of their own, with witnesses in its first and its last input.
func full() api.Tx {
	return api.Tx{
		Version: 0x04030201,
		In: []api.In{
			{Prev: api.Point{ID: api.Hash(sample(32)), Index: 0x14131211}, Script: sample(3), Sequence: 0x24232221, Witness: [][]byte{sample(5), nil, sample(0xfd)}},
			{Prev: api.Point{ID: api.Hash(sample(64)[32:]), Index: 1}, Sequence: math.MaxUint32},
			{Prev: api.Point{ID: api.Hash{31: 9}, Index: math.MaxUint32}, Script: sample(0xfd), Witness: [][]byte{sample(1)}},
		},
		Out:  []api.Out{{Value: 0x4746454443424140, Script: sample(25)}, {}, {Value: math.MaxInt64, Script: sample(0xfe)}},
		Lock: 0x54535251,
	}
}

func bare(t api.Tx) api.Tx {
	t.In = slices.Clone(t.In)
	for i := range t.In {
		t.In[i].Witness = nil
	}
	return t
}

// count is a count's bytes.
func count(n int) []byte {
	switch {
	case n < 0xfd:
		return []byte{byte(n)}
	case n <= math.MaxUint16:
		return binary.LittleEndian.AppendUint16([]byte{0xfd}, uint16(n))
	}
	return binary.LittleEndian.AppendUint32([]byte{0xfe}, uint32(n))
}

func text(b []byte) []byte {
	return slices.Concat(count(len(b)), b)
}

// written is what the chapter says that a transaction's bytes are.
func written(t api.Tx, witness bool) []byte {
	le := binary.LittleEndian
	with := false
	for _, in := range t.In {
		with = with || witness && len(in.Witness) > 0
	}
	b := le.AppendUint32(nil, t.Version)
	if with {
		b = append(b, 0, 1)
	}
	b = append(b, count(len(t.In))...)
	for _, in := range t.In {
		b = append(b, in.Prev.ID[:]...)
		b = le.AppendUint32(b, in.Prev.Index)
		b = append(b, text(in.Script)...)
		b = le.AppendUint32(b, in.Sequence)
	}
	b = append(b, count(len(t.Out))...)
	for _, out := range t.Out {
		b = le.AppendUint64(b, uint64(out.Value))
		b = append(b, text(out.Script)...)
	}
	for _, in := range t.In {
		if with {
			b = append(b, count(len(in.Witness))...)
		}
		for _, w := range in.Witness {
			if with {
				b = append(b, text(w)...)
			}
		}
	}
	return le.AppendUint32(b, t.Lock)
}

// same holds transactions against each other; nil lists and empty ones mean the same.
func same(a, b api.Tx) bool {
	sameIn := func(x, y api.In) bool {
		return x.Prev == y.Prev && bytes.Equal(x.Script, y.Script) && x.Sequence == y.Sequence && slices.EqualFunc(x.Witness, y.Witness, bytes.Equal)
	}
	sameOut := func(x, y api.Out) bool {
		return x.Value == y.Value && bytes.Equal(x.Script, y.Script)
	}
	return a.Version == b.Version && a.Lock == b.Lock && slices.EqualFunc(a.In, b.In, sameIn) && slices.EqualFunc(a.Out, b.Out, sameOut)
}

func wantWritten(t *testing.T, name string, x api.Tx) {
	t.Helper()
	if !tx.Can(x) {
		t.Errorf("%s: it can't be written", name)
	}
	for _, witness := range []bool{false, true} {
		if b, e := tx.Encode(x, witness); e != api.OK || !bytes.Equal(b, written(x, witness)) {
			t.Errorf("%s, witnesses %v: %d bytes, %.60x, %v", name, witness, len(b), b, e)
		}
	}
	if id, e := tx.ID(x); e != api.OK || id != doubleSum(written(x, false)) {
		t.Errorf("%s: ID %x %v", name, id, e)
	}
}

func wantNotWritten(t *testing.T, name string, x api.Tx) {
	t.Helper()
	if tx.Can(x) {
		t.Errorf("%s: it can be written", name)
	}
	for _, witness := range []bool{false, true} {
		if b, e := tx.Encode(x, witness); e != api.ErrArg || len(b) != 0 {
			t.Errorf("%s, witnesses %v: %d bytes, %v", name, witness, len(b), e)
		}
	}
	if id, e := tx.ID(x); e != api.ErrArg || id != (api.Hash{}) {
		t.Errorf("%s: ID %x %v", name, id, e)
	}
}

func wantRead(t *testing.T, name string, b []byte, want api.Tx, behind []byte) {
	t.Helper()
	x, rest, e := tx.Decode(b)
	if e != api.OK || !same(x, want) || !bytes.Equal(rest, behind) {
		t.Errorf("%s: %d inputs, %d outputs, %d bytes behind, %v", name, len(x.In), len(x.Out), len(rest), e)
	}
}

func wantNotRead(t *testing.T, name string, b []byte, want api.Errno) {
	t.Helper()
	x, rest, e := tx.Decode(b)
	if e != want || !reflect.DeepEqual(x, api.Tx{}) || len(rest) != 0 {
		t.Errorf("%s: %d inputs, %d bytes behind, %v, not %v", name, len(x.In), len(rest), e, want)
	}
}

// named are transactions about the edges of what can be written.
type named struct {
	name string
	tx   api.Tx
}

func with(name string, change func(*api.Tx)) named {
	x := full()
	change(&x)
	return named{name, x}
}

func canBe() []named {
	long := make([]byte, api.MaxScript)
	return []named{
		{"plain", plain()},
		{"full", full()},
		{"without witnesses", bare(full())},
		with("one input", func(x *api.Tx) { x.In = x.In[:1] }),
		with("2000 inputs", func(x *api.Tx) { x.In = append(make([]api.In, mostParts-3), x.In...) }),
		with("2000 inputs without witnesses", func(x *api.Tx) { x.In = make([]api.In, mostParts) }),
		with("no outputs", func(x *api.Tx) { x.Out = nil }),
		with("an empty list of outputs", func(x *api.Tx) { x.Out = []api.Out{} }),
		with("2000 outputs", func(x *api.Tx) { x.Out = append(make([]api.Out, mostParts-3), x.Out...) }),
		with("an input's script at the limit", func(x *api.Tx) { x.In[1].Script = long }),
		with("an output's script at the limit", func(x *api.Tx) { x.Out[1].Script = long }),
		with("value 0", func(x *api.Tx) { x.Out[0].Value = 0 }),
		with("value 1", func(x *api.Tx) { x.Out[0].Value = 1 }),
		with("the greatest value", func(x *api.Tx) { x.Out[0].Value = math.MaxInt64 }),
		with("100 witnesses", func(x *api.Tx) { x.In[1].Witness = make([][]byte, mostWitnesses) }),
		with("100 witnesses at the limit", func(x *api.Tx) { x.In[2].Witness = slices.Repeat([][]byte{long}, mostWitnesses) }),
		with("a witness at the limit", func(x *api.Tx) { x.In[1].Witness = [][]byte{nil, long} }),
		with("witnesses in the last input alone", func(x *api.Tx) { x.In[0].Witness = nil }),
		with("witnesses in the first input alone", func(x *api.Tx) { x.In[2].Witness = nil }),
		with("an empty witness in one input alone", func(x *api.Tx) { x.In[0].Witness, x.In[2].Witness = nil, [][]byte{{}} }),
		with("empty lists of witnesses", func(x *api.Tx) {
			for i := range x.In {
				x.In[i].Witness = [][]byte{}
			}
		}),
	}
}

func cannotBe() []named {
	long := make([]byte, api.MaxScript+1)
	return []named{
		{"nothing", api.Tx{}},
		with("no inputs", func(x *api.Tx) { x.In = nil }),
		with("an empty list of inputs", func(x *api.Tx) { x.In = []api.In{} }),
		with("2001 inputs", func(x *api.Tx) { x.In = append(make([]api.In, mostParts-2), x.In...) }),
		with("2001 outputs", func(x *api.Tx) { x.Out = append(make([]api.Out, mostParts-2), x.Out...) }),
		with("the first input's script too long", func(x *api.Tx) { x.In[0].Script = long }),
		with("the last input's script too long", func(x *api.Tx) { x.In[2].Script = long }),
		with("the first output's script too long", func(x *api.Tx) { x.Out[0].Script = long }),
		with("the last output's script too long", func(x *api.Tx) { x.Out[2].Script = long }),
		with("the first value below 0", func(x *api.Tx) { x.Out[0].Value = -1 }),
		with("the last value below 0", func(x *api.Tx) { x.Out[2].Value = -1 }),
		with("the least value", func(x *api.Tx) { x.Out[1].Value = math.MinInt64 }),
		with("101 witnesses of the first input", func(x *api.Tx) { x.In[0].Witness = make([][]byte, mostWitnesses+1) }),
		with("101 witnesses of the last input", func(x *api.Tx) { x.In[2].Witness = make([][]byte, mostWitnesses+1) }),
		with("a first witness too long", func(x *api.Tx) { x.In[0].Witness[0] = long }),
		with("a last witness too long", func(x *api.Tx) { x.In[2].Witness[0] = long }),
	}
}

// P7.1: what can be written, at the limits, and its bytes and ID.
func TestWritten(t *testing.T) {
	for _, x := range canBe() {
		wantWritten(t, x.name, x.tx)
	}
}

// P7.1: what can't be written, beyond each limit.
func TestNotWritten(t *testing.T) {
	for _, x := range cannotBe() {
		wantNotWritten(t, x.name, x.tx)
	}
}

// P7.1: counts of inputs, outputs and witnesses whose width is another one.
func TestWrittenWidths(t *testing.T) {
	for _, n := range []int{1, 2, 0xfc, 0xfd, 0xfe, 0xff, 0x100, 1999} {
		wantWritten(t, fmt.Sprint(n, " inputs"), with("", func(x *api.Tx) { x.In = make([]api.In, n) }).tx)
		wantWritten(t, fmt.Sprint(n, " outputs"), with("", func(x *api.Tx) { x.Out = make([]api.Out, n) }).tx)
		wantWritten(t, fmt.Sprint(n, " bytes"), with("", func(x *api.Tx) { x.In[0].Script, x.Out[0].Script, x.In[0].Witness[0] = sample(n), sample(n), sample(n) }).tx)
	}
}

// P7.1: bytes written by hand, without witnesses and with them.
func TestWrittenByHand(t *testing.T) {
	x := api.Tx{
		Version: 2,
		In: []api.In{
			{Prev: api.Point{ID: api.Hash(bytes.Repeat([]byte{0xaa}, 32)), Index: 1}, Script: []byte{0x51, 0x52}, Sequence: 0xfffffffd},
			{Prev: api.Point{ID: api.Hash(bytes.Repeat([]byte{0xbb}, 32)), Index: 0x100}, Witness: [][]byte{{0xcc}, {}}},
		},
		Out:  []api.Out{{Value: 0x0102, Script: []byte{0x6a}}},
		Lock: 500000,
	}
	ins := "02" + "aaaaaaaaaaaaaaaaaaaaaaaaaaaaaaaaaaaaaaaaaaaaaaaaaaaaaaaaaaaaaaaa" + "01000000" + "025152" + "fdffffff" +
		"bbbbbbbbbbbbbbbbbbbbbbbbbbbbbbbbbbbbbbbbbbbbbbbbbbbbbbbbbbbbbbbb" + "00010000" + "00" + "00000000"
	outs := "01" + "0201000000000000" + "016a"
	without := fromHex(t, "02000000"+ins+outs+"20a10700")
	if b, e := tx.Encode(x, false); e != api.OK || !bytes.Equal(b, without) {
		t.Errorf("without: %x %v", b, e)
	}
	within := fromHex(t, "02000000"+"0001"+ins+outs+"00"+"0201cc00"+"20a10700")
	if b, e := tx.Encode(x, true); e != api.OK || !bytes.Equal(b, within) {
		t.Errorf("with: %x %v", b, e)
	}
	wantRead(t, "without", without, bare(x), nil)
	wantRead(t, "with", within, x, nil)
}

// P7.1: one input, no output.
func TestWrittenPlain(t *testing.T) {
	b, e := tx.Encode(plain(), true)
	if e != api.OK || len(b) != 4+1+41+1+4 {
		t.Errorf("%d bytes, %v", len(b), e)
	}
}

// P7.1, P7.2: the real chain's first transaction.
func TestFirst(t *testing.T) {
	b := fromHex(t, firstBytes)
	x, rest, e := tx.Decode(b)
	if e != api.OK || len(rest) != 0 || len(x.In) != 1 || len(x.Out) != 1 || x.Version != 1 || x.Out[0].Value != 5000000000 {
		t.Fatalf("%v %x %v", x, rest, e)
	}
	if id, e := tx.ID(x); e != api.OK || hex.EncodeToString(id[:]) != firstID {
		t.Errorf("%x %v", id, e)
	}
	wantWritten(t, "first", x)
}

// P7.2: what stands behind a transaction of each form.
func TestReadBehind(t *testing.T) {
	for _, x := range []api.Tx{plain(), full(), bare(full())} {
		b := written(x, true)
		for _, behind := range [][]byte{nil, {0}, {1}, {0xff}, sample(100), written(full(), true), written(plain(), true)} {
			wantRead(t, "behind", slices.Concat(b, behind), x, behind)
		}
	}
}

// P7.2: cut short at every place.
func TestReadShort(t *testing.T) {
	for _, x := range []api.Tx{plain(), full(), bare(full())} {
		b := written(x, true)
		for n := range b {
			wantNotRead(t, fmt.Sprint("cut at ", n), b[:n], api.ErrShort) // the rest stands in the room behind the end
			wantNotRead(t, fmt.Sprint("cut at ", n), bytes.Clone(b[:n]), api.ErrShort)
		}
	}
	wantNotRead(t, "nothing", nil, api.ErrShort)
}

// P7.2: the byte behind a count of inputs that is nought.
func TestReadMark(t *testing.T) {
	b := written(full(), true)
	for x := range 256 {
		b[5] = byte(x)
		if x != 1 {
			wantNotRead(t, fmt.Sprint("0 and ", x), b, api.ErrForm)
			wantNotRead(t, fmt.Sprint("0 and ", x), b[:6], api.ErrForm)
		}
	}
	wantNotRead(t, "0", b[:5], api.ErrShort)
	wantNotRead(t, "0 and 1", []byte{9, 9, 9, 9, 0, 1}, api.ErrShort)
	wantNotRead(t, "0 and 1, no inputs", []byte{9, 9, 9, 9, 0, 1, 0}, api.ErrForm)
	wantNotRead(t, "0 and 1 twice", []byte{9, 9, 9, 9, 0, 1, 0, 1, 1}, api.ErrForm)
	wantNotRead(t, "nought in three bytes", []byte{9, 9, 9, 9, 0xfd, 0, 0, 1, 1}, api.ErrForm)
}

// piece is a part of a transaction's bytes, with others that may stand in its place and the error that they make there.
type piece struct {
	name string
	good []byte
	bad  map[string]api.Errno
}

func number(n int, width int) []byte {
	return binary.LittleEndian.AppendUint64(nil, uint64(n))[:width]
}

// countPiece is a count; zero says what a count of nought makes, if that is an error.
func countPiece(name string, n, most int, zero api.Errno) piece {
	bad := map[string]api.Errno{
		string(count(most + 1)):                   api.ErrFull,
		"\xfe\xff\xff\xff\xff":                    api.ErrFull,
		"\xff\xff\xff\xff\xff\xff\xff\xff\xff":    api.ErrFull,
		"\xff\x00\x00\x00\x00\x00\x00\x00\x80":    api.ErrFull,
		"\xfd" + string(number(n, 2)):             api.ErrForm,
		"\xfe" + string(number(n, 4)):             api.ErrForm,
		"\xff" + string(number(n, 8)):             api.ErrForm,
		"\xfe" + string(number(0xffff, 4)):        api.ErrForm,
		"\xff" + string(number(math.MaxInt32, 8)): api.ErrForm,
	}
	if zero != api.OK {
		bad["\x00"] = zero
	}
	return piece{name, count(n), bad}
}

func textPieces(name string, b []byte) []piece {
	return []piece{countPiece(name+"'s count", len(b), api.MaxScript, api.OK), {name, b, nil}}
}

func valuePiece(name string, n int) piece {
	return piece{name, number(n, 8), map[string]api.Errno{
		"\x00\x00\x00\x00\x00\x00\x00\x80": api.ErrForm,
		"\x01\x00\x00\x00\x00\x00\x00\x80": api.ErrForm,
		"\xff\xff\xff\xff\xff\xff\xff\xff": api.ErrForm,
	}}
}

// pieces are those of a transaction with two inputs and two outputs.
func pieces(witness bool) []piece {
	p := []piece{{"version", number(2, 4), nil}}
	zeroIns := api.OK // in its place, without witnesses, it begins the other form
	if witness {
		zeroIns = api.ErrForm
		p = append(p, piece{"mark", []byte{0, 1}, map[string]api.Errno{"\x00\x00": api.ErrForm, "\x00\x02": api.ErrForm, "\x00\xff": api.ErrForm}})
	}
	p = append(p, countPiece("count of inputs", 2, mostParts, zeroIns))
	for _, name := range []string{"first input", "second input"} {
		p = append(p, piece{name + "'s point", sample(36), nil})
		p = append(p, textPieces(name+"'s script", sample(4))...)
		p = append(p, piece{name + "'s sequence", sample(4), nil})
	}
	p = append(p, countPiece("count of outputs", 2, mostParts, api.OK))
	for _, name := range []string{"first output", "second output"} {
		p = append(p, valuePiece(name+"'s value", 77))
		p = append(p, textPieces(name+"'s script", sample(3))...)
	}
	if witness {
		p = append(p, countPiece("count of the first input's witnesses", 1, mostWitnesses, api.OK))
		p = append(p, textPieces("first input's witness", sample(2))...)
		p = append(p, countPiece("count of the second input's witnesses", 2, mostWitnesses, api.OK))
		p = append(p, textPieces("second input's first witness", sample(5))...)
		p = append(p, textPieces("second input's second witness", nil)...)
	}
	return append(p, piece{"lock", sample(4), nil})
}

func join(p []piece) []byte {
	var b []byte
	for _, x := range p {
		b = append(b, x.good...)
	}
	return b
}

// P7.2: each part that is wrong, whatever stands behind it, or nothing.
func TestReadFirstError(t *testing.T) {
	for _, witness := range []bool{false, true} {
		p := pieces(witness)
		if _, rest, e := tx.Decode(join(p)); e != api.OK || len(rest) != 0 {
			t.Fatal(rest, e)
		}
		for i, x := range p {
			ahead := join(p[:i])
			for bad, want := range x.bad {
				until := slices.Concat(ahead, []byte(bad))
				wantNotRead(t, x.name, until, want)
				wantNotRead(t, x.name, slices.Concat(until, join(p[i+1:])), want)
				wantNotRead(t, x.name, slices.Concat(until, make([]byte, 20000)), want)
				wantNotRead(t, x.name, slices.Concat(until, bytes.Repeat([]byte{0xff}, 100)), want)
				for n := len(ahead); n < len(until); n++ {
					wantNotRead(t, x.name+" cut", until[:n], api.ErrShort)
				}
			}
		}
	}
}

// P7.2: of two parts that are wrong the first one's error.
func TestReadTwoErrors(t *testing.T) {
	for _, witness := range []bool{false, true} {
		p := pieces(witness)
		for i, x := range p {
			for j := i + 1; j < len(p); j++ {
				for bad, want := range x.bad {
					for worse := range p[j].bad {
						wantNotRead(t, x.name+", "+p[j].name, slices.Concat(join(p[:i]), []byte(bad), join(p[i+1:j]), []byte(worse), join(p[j+1:])), want)
					}
				}
			}
		}
	}
}

// P7.2: a form with witnesses that has none is told behind them, ahead of the lock.
func TestReadNoWitness(t *testing.T) {
	for _, ins := range []int{1, 2, 3, 300} {
		x := bare(full())
		x.In = make([]api.In, ins)
		b := written(x, false)
		marked := slices.Concat(b[:4], []byte{0, 1}, b[4:len(b)-4], make([]byte, ins))
		wantNotRead(t, "no witness, a lock", slices.Concat(marked, []byte{1, 2, 3, 4}), api.ErrForm)
		wantNotRead(t, "no witness, no lock", marked, api.ErrForm)
		wantNotRead(t, "no witness, a short lock", slices.Concat(marked, []byte{1, 2, 3}), api.ErrForm)
		wantNotRead(t, "no witness, one count short", marked[:len(marked)-1], api.ErrShort)
		for _, bad := range []struct {
			b string
			e api.Errno
		}{{"\x65", api.ErrFull}, {"\xfd\x00\x00", api.ErrForm}, {"\xfe\x00\x00\x00", api.ErrShort}} {
			wantNotRead(t, "a last count that is wrong", slices.Concat(marked[:len(marked)-1], []byte(bad.b)), bad.e)
		}
	}
}

// P7.2: values at the edge, in the last output of some.
func TestReadValues(t *testing.T) {
	x := bare(full())
	x.Out = []api.Out{{Value: 1}, {Value: 2}}
	b := written(x, true)
	at := len(b) - 4 - 9
	for _, v := range []uint64{0, 1, 0xff, 1 << 32, 1<<63 - 1} {
		binary.LittleEndian.PutUint64(b[at:], v)
		x.Out[1].Value = int64(v)
		wantRead(t, fmt.Sprint("value ", v), b, x, nil)
	}
	for _, v := range []uint64{1 << 63, 1<<63 + 1, math.MaxUint64 - 1, math.MaxUint64} {
		binary.LittleEndian.PutUint64(b[at:], v)
		wantNotRead(t, fmt.Sprint("value ", v), b, api.ErrForm)
		wantNotRead(t, fmt.Sprint("value ", v), b[:at+8], api.ErrForm)
	}
}

// P7.2: what can't be written, but for values, can be told by bytes, and is refused there.
func TestReadBeyondLimits(t *testing.T) {
	for _, x := range cannotBe() {
		want := api.ErrFull
		if len(x.tx.In) == 0 {
			continue // its count is nought, and begins the other form
		}
		if slices.ContainsFunc(x.tx.Out, func(o api.Out) bool { return o.Value < 0 }) {
			want = api.ErrForm
		}
		wantNotRead(t, x.name, written(x.tx, true), want)
	}
}

// P7.3: there and back, at all limits.
func TestBack(t *testing.T) {
	for _, x := range canBe() {
		b, e := tx.Encode(x.tx, true)
		if e != api.OK {
			t.Fatal(x.name, e)
		}
		wantRead(t, x.name, b, x.tx, nil)
		b, e = tx.Encode(x.tx, false)
		if e != api.OK {
			t.Fatal(x.name, e)
		}
		wantRead(t, x.name+" without witnesses", b, bare(x.tx), nil)
	}
}

// P7.3: transactions of all kinds there and back.
func TestBackRandom(t *testing.T) {
	r := rand.New(rand.NewSource(1))
	for range 3000 {
		x := random(r)
		b, e := tx.Encode(x, true)
		if e != api.OK || !bytes.Equal(b, written(x, true)) {
			t.Fatal(x, e)
		}
		behind := sample(r.Intn(9))
		wantRead(t, "random", slices.Concat(b, behind), x, behind)
	}
}

// P7.2, P7.3: what any bytes say as a transaction are these bytes again.
func TestBytesBack(t *testing.T) {
	r := rand.New(rand.NewSource(2))
	read := 0
	for range 60000 {
		b := written(random(r), r.Intn(3) > 0)
		for range 1 + r.Intn(3) {
			b[r.Intn(len(b))] = []byte{0, 1, 2, 0x64, 0x65, 0x7f, 0x80, 0xfc, 0xfd, 0xff, byte(r.Intn(256))}[r.Intn(11)]
		}
		x, rest, e := tx.Decode(b)
		if e != api.OK {
			continue
		}
		read++
		again, e := tx.Encode(x, true)
		if e != api.OK || !tx.Can(x) || !bytes.Equal(slices.Concat(again, rest), b) {
			t.Fatalf("%x: %x %x %v", b, again, rest, e)
		}
	}
	if read < 10000 {
		t.Errorf("only %d were transactions", read)
	}
}

func random(r *rand.Rand) api.Tx {
	x := api.Tx{Version: r.Uint32(), Lock: r.Uint32()}
	some := func(n int) []byte {
		b := make([]byte, r.Intn(n))
		r.Read(b)
		return b
	}
	for range 1 + r.Intn(3) {
		in := api.In{Prev: api.Point{Index: r.Uint32()}, Script: some(6), Sequence: r.Uint32()}
		r.Read(in.Prev.ID[:])
		for range max(0, r.Intn(5)-2) {
			in.Witness = append(in.Witness, some(4))
		}
		x.In = append(x.In, in)
	}
	for range r.Intn(4) {
		x.Out = append(x.Out, api.Out{Value: r.Int63(), Script: some(6)})
	}
	return x
}

// P7.4: witnesses play no part in the ID; all else does.
func TestIDParts(t *testing.T) {
	id, e := tx.ID(full())
	if e != api.OK {
		t.Fatal(e)
	}
	for _, x := range []named{
		{"none", bare(full())},
		with("others", func(x *api.Tx) { x.In[1].Witness = [][]byte{{1}, {2, 3}} }),
		with("100 long ones", func(x *api.Tx) {
			x.In[0].Witness = slices.Repeat([][]byte{make([]byte, api.MaxScript)}, mostWitnesses)
		}),
	} {
		if other, e := tx.ID(x.tx); e != api.OK || other != id {
			t.Errorf("witnesses %s: %x %v", x.name, other, e)
		}
	}
	for _, x := range []named{
		with("version", func(x *api.Tx) { x.Version++ }),
		with("lock", func(x *api.Tx) { x.Lock++ }),
		with("point's ID", func(x *api.Tx) { x.In[0].Prev.ID[31]++ }),
		with("point's place", func(x *api.Tx) { x.In[0].Prev.Index++ }),
		with("input's script", func(x *api.Tx) { x.In[0].Script[0]++ }),
		with("sequence", func(x *api.Tx) { x.In[0].Sequence++ }),
		with("value", func(x *api.Tx) { x.Out[0].Value++ }),
		with("output's script", func(x *api.Tx) { x.Out[0].Script[0]++ }),
		with("one input less", func(x *api.Tx) { x.In = x.In[:2] }),
		with("one output less", func(x *api.Tx) { x.Out = x.Out[:2] }),
	} {
		if other, e := tx.ID(x.tx); e != api.OK || other == id {
			t.Errorf("%s plays no part, %v", x.name, e)
		}
	}
}

// roomy is a list with room behind its end, in which something stands.
func roomy[T any](l []T, behind ...T) []T {
	return append(slices.Clone(l), behind...)[:len(l)]
}

// roomyTx is a transaction all of whose lists have room behind their ends.
func roomyTx(x api.Tx) api.Tx {
	x.In = slices.Clone(x.In)
	for i, in := range x.In {
		x.In[i].Script = roomy(in.Script, sample(9)...)
		witnesses := slices.Clone(in.Witness)
		for j, w := range witnesses {
			witnesses[j] = roomy(w, sample(9)...)
		}
		x.In[i].Witness = roomy(witnesses, sample(3), sample(2))
	}
	x.Out = slices.Clone(x.Out)
	for i, out := range x.Out {
		x.Out[i].Script = roomy(out.Script, sample(9)...)
	}
	x.In = roomy(x.In, api.In{Script: sample(4), Witness: [][]byte{sample(5)}})
	x.Out = roomy(x.Out, api.Out{Value: 7, Script: sample(6)})
	return x
}

// opened is a copy of a transaction whose lists have as items what stands behind their ends, too.
func opened(x api.Tx) api.Tx {
	x.In = slices.Clone(whole(x.In))
	for i, in := range x.In {
		x.In[i].Script = bytes.Clone(whole(in.Script))
		x.In[i].Witness = slices.Clone(whole(in.Witness))
		for j, w := range x.In[i].Witness {
			x.In[i].Witness[j] = bytes.Clone(whole(w))
		}
	}
	x.Out = slices.Clone(whole(x.Out))
	for i, out := range x.Out {
		x.Out[i].Script = bytes.Clone(whole(out.Script))
	}
	return x
}

// span is where a list's memory, room behind its end included, begins and ends.
type span struct{ from, to uintptr }

// spans are those of all lists within a value.
func spans(v reflect.Value) []span {
	var l []span
	switch v.Kind() {
	case reflect.Slice:
		if v.Cap() > 0 {
			l = append(l, span{v.Pointer(), v.Pointer() + uintptr(v.Cap())*v.Type().Elem().Size()})
		}
		for i := range v.Len() {
			l = append(l, spans(v.Index(i))...)
		}
	case reflect.Struct:
		for i := range v.NumField() {
			l = append(l, spans(v.Field(i))...)
		}
	}
	return l
}

// wantApart asks whether no two lists within all these share memory.
func wantApart(t *testing.T, name string, all ...any) {
	t.Helper()
	var l []span
	for _, x := range all {
		l = append(l, spans(reflect.ValueOf(x))...)
	}
	slices.SortFunc(l, func(a, b span) int { return int(a.from) - int(b.from) })
	for i := 1; i < len(l); i++ {
		if l[i].from < l[i-1].to {
			t.Errorf("%s: two of %d lists share memory", name, len(l))
			return
		}
	}
}

// small are the transactions of canBe of which few lists are made.
func small() []named {
	return slices.DeleteFunc(canBe(), func(x named) bool { return len(x.tx.In) > 100 || len(x.tx.Out) > 100 })
}

// What is handed in is not changed, the room behind the ends of all lists included.
func TestArgumentsStay(t *testing.T) {
	for _, x := range append(small(), cannotBe()...) {
		arg := roomyTx(x.tx)
		before := opened(arg)
		tx.Can(arg)
		tx.ID(arg)
		for _, witness := range []bool{false, true} {
			tx.Encode(arg, witness)
		}
		if !reflect.DeepEqual(opened(arg), before) {
			t.Errorf("%s was changed", x.name)
		}
		b := written(x.tx, true)
		for _, cut := range []int{len(b), len(b) - 1, len(b) / 2, 5} {
			arg := roomy(b[:cut], sample(300)...)
			before := bytes.Clone(whole(arg))
			tx.Decode(arg)
			if !bytes.Equal(whole(arg), before) {
				t.Errorf("the bytes of %s were changed", x.name)
			}
		}
	}
}

// No answer shares memory with what came in, with another answer, or with another list of its own.
func TestAnswersNew(t *testing.T) {
	for _, x := range small() {
		arg := roomyTx(x.tx)
		first, _ := tx.Encode(arg, true)
		second, _ := tx.Encode(arg, true)
		third, _ := tx.Encode(arg, false)
		wantApart(t, x.name, arg, first, second, third)
		for _, behind := range []int{0, 1, 300} {
			b := roomy(slices.Concat(written(x.tx, true), sample(behind)), sample(300)...)
			one, rest, e := tx.Decode(b)
			other, more, f := tx.Decode(b)
			if e != api.OK || f != api.OK {
				t.Fatal(x.name, e, f)
			}
			wantApart(t, x.name+" read", b, one, rest, other, more)
		}
	}
}

// No answer hangs on what becomes of its argument later.
func TestArgumentsNotKept(t *testing.T) {
	x := full()
	b, e := tx.Encode(x, true)
	x.In[0].Script[0], x.In[0].Witness[0][0], x.Out[0].Script[0] = 0xee, 0xee, 0xee
	if e != api.OK || !bytes.Equal(b, written(full(), true)) {
		t.Error("bytes hang on the transaction")
	}
	b = append(b, 1, 2, 3)
	y, rest, e := tx.Decode(b)
	clear(b)
	if e != api.OK || !same(y, full()) || !bytes.Equal(rest, []byte{1, 2, 3}) {
		t.Error("the transaction hangs on the bytes")
	}
}

// Bytes of any kind end, and panic nowhere.
func TestAnyBytes(t *testing.T) {
	r := rand.New(rand.NewSource(3))
	for range 50000 {
		b := make([]byte, r.Intn(120))
		for i := range b {
			b[i] = []byte{0, 0, 0, 1, 1, 2, 0xfd, 0xff, byte(r.Intn(256))}[r.Intn(9)]
		}
		x, rest, e := tx.Decode(b)
		if e != api.OK && (!reflect.DeepEqual(x, api.Tx{}) || len(rest) != 0) {
			t.Fatalf("%x: %v %x beside %v", b, x, rest, e)
		}
	}
}
