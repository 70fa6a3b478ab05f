package message_test

import (
	"bytes"
	"crypto/sha256"
	"encoding/binary"
	"fmt"
	"math"
	"math/rand"
	"reflect"
	"slices"
	"strings"
	"testing"

	"sporran/api"
	"sporran/block"
	"sporran/frame"
	"sporran/message"
)

const (
	mostPlaces = 101
	mostSums   = 2000
	mostItems  = 1000
	mostAgent  = 256
	mostFilter = api.MaxPayload - 50
)

// commands are all kinds', as the chapter says them.
var commands = map[int]string{
	api.MsgVersion:    "version",
	api.MsgVerack:     "verack",
	api.MsgPing:       "ping",
	api.MsgPong:       "pong",
	api.MsgGetHeaders: "getheaders",
	api.MsgHeaders:    "headers",
	api.MsgGetSums:    "getcfheaders",
	api.MsgSums:       "cfheaders",
	api.MsgGetFilter:  "getcfilters",
	api.MsgFilter:     "cfilter",
	api.MsgGetData:    "getdata",
	api.MsgBlock:      "block",
	api.MsgNotFound:   "notfound",
}

func sample(n int) []byte {
	b := make([]byte, n)
	for i := range b {
		b[i] = byte(i*37 + i/256 + 11)
	}
	return b
}

func whole[T any](l []T) []T {
	return l[:cap(l)]
}

func hash(n int) api.Hash {
	return sha256.Sum256([]byte(fmt.Sprint("hash ", n)))
}

func hashes(n int) []api.Hash {
	l := make([]api.Hash, n)
	for i := range l {
		l[i] = hash(i)
	}
	return l
}

func headers(n int) []api.Header {
	l := make([]api.Header, n)
	for i := range l {
		l[i] = api.Header{Version: uint32(i) + 0x01020304, Prev: hash(i), Merkle: hash(-i), Time: uint32(i) << 16, Bits: 0x1d00ffff, Nonce: math.MaxUint32 - uint32(i)}
	}
	return l
}

func txs(n int) []api.Tx {
	l := make([]api.Tx, n)
	for i := range l {
		l[i] = api.Tx{Version: 2, In: []api.In{{Prev: api.Point{ID: hash(i), Index: uint32(i)}, Script: sample(i % 5)}}, Out: []api.Out{{Value: int64(i), Script: sample(i % 7)}}, Lock: uint32(i)}
		if i%3 == 1 {
			l[i].In[0].Witness = [][]byte{sample(i % 4), nil}
		}
	}
	return l
}

func someBlock(n int) api.Block {
	return api.Block{Header: headers(n + 1)[n], Txs: txs(n)}
}

// stuffed is a block of just n bytes.
func stuffed(t *testing.T, n int) api.Block {
	t.Helper()
	b := someBlock(1)
	outs := &b.Txs[0].Out
	*outs = nil
	for range n / 10100 {
		*outs = append(*outs, api.Out{Script: sample(9980)})
	}
	*outs = append(*outs, api.Out{}, api.Out{})
	missing := n - len(blockBytes(b))
	(*outs)[0].Script = sample(9980 + min(missing, 20))
	missing = n - len(blockBytes(b))
	(*outs)[len(*outs)-1].Script = sample(max(min(missing-2, api.MaxScript), 0))
	missing = n - len(blockBytes(b))
	(*outs)[len(*outs)-2].Script = sample(missing)
	if got := len(blockBytes(b)); got != n {
		t.Fatalf("%d bytes, not %d", got, n)
	}
	return b
}

// count is a count's bytes.
func count(n int) []byte {
	switch {
	case n < 0xfd:
		return []byte{byte(n)}
	case n <= math.MaxUint16:
		return binary.LittleEndian.AppendUint16([]byte{0xfd}, uint16(n))
	}
	return binary.LittleEndian.AppendUint32([]byte{0xfe}, uint32(n))
}

func text(b []byte) []byte {
	return slices.Concat(count(len(b)), b)
}

func four(n uint32) []byte {
	return binary.LittleEndian.AppendUint32(nil, n)
}

func eight(n uint64) []byte {
	return binary.LittleEndian.AppendUint64(nil, n)
}

func headerBytes(h api.Header) []byte {
	return slices.Concat(four(h.Version), h.Prev[:], h.Merkle[:], four(h.Time), four(h.Bits), four(h.Nonce))
}

func blockBytes(b api.Block) []byte {
	w := slices.Concat(headerBytes(b.Header), count(len(b.Txs)))
	for _, x := range b.Txs {
		w = append(w, txBytes(x)...)
	}
	return w
}

func txBytes(x api.Tx) []byte {
	b := four(x.Version)
	with := slices.ContainsFunc(x.In, func(in api.In) bool { return len(in.Witness) > 0 })
	if with {
		b = append(b, 0, 1)
	}
	b = append(b, count(len(x.In))...)
	for _, in := range x.In {
		b = slices.Concat(b, in.Prev.ID[:], four(in.Prev.Index), text(in.Script), four(in.Sequence))
	}
	b = append(b, count(len(x.Out))...)
	for _, out := range x.Out {
		b = slices.Concat(b, eight(uint64(out.Value)), text(out.Script))
	}
	for _, in := range x.In {
		if with {
			b = append(b, count(len(in.Witness))...)
		}
		for _, w := range in.Witness {
			b = append(b, text(w)...)
		}
	}
	return append(b, four(x.Lock)...)
}

func hashList(ahead string, l []api.Hash) []byte {
	b := count(len(l))
	for _, h := range l {
		b = slices.Concat(b, []byte(ahead), h[:])
	}
	return b
}

// payload is what the chapter says that a message's payload is.
func payload(m api.Message) []byte {
	switch m.Kind {
	case api.MsgVersion:
		return slices.Concat(four(m.Number), make([]byte, 68), eight(m.Nonce), []byte{0}, make([]byte, 4))
	case api.MsgPing, api.MsgPong:
		return eight(m.Nonce)
	case api.MsgGetHeaders:
		return slices.Concat(four(m.Number), hashList("", m.Hashes), m.Stop[:])
	case api.MsgHeaders:
		b := count(len(m.Headers))
		for _, h := range m.Headers {
			b = slices.Concat(b, headerBytes(h), []byte{0})
		}
		return b
	case api.MsgGetSums, api.MsgGetFilter:
		return slices.Concat([]byte{0}, four(m.Number), m.Stop[:])
	case api.MsgSums:
		return slices.Concat([]byte{0}, m.Stop[:], m.Prev[:], hashList("", m.Hashes))
	case api.MsgFilter:
		return slices.Concat([]byte{0}, m.Stop[:], text(m.Bytes))
	case api.MsgGetData, api.MsgNotFound:
		return hashList("\x02\x00\x00\x40", m.Hashes)
	case api.MsgBlock:
		return blockBytes(m.Block)
	}
	return nil
}

// named is a message with the fields that its Kind names alone.
func named(m api.Message) api.Message {
	x := api.Message{Kind: m.Kind}
	switch m.Kind {
	case api.MsgVersion:
		x.Number, x.Nonce = m.Number, m.Nonce
	case api.MsgPing, api.MsgPong:
		x.Nonce = m.Nonce
	case api.MsgGetHeaders:
		x.Number, x.Hashes, x.Stop = m.Number, m.Hashes, m.Stop
	case api.MsgHeaders:
		x.Headers = m.Headers
	case api.MsgGetSums, api.MsgGetFilter:
		x.Number, x.Stop = m.Number, m.Stop
	case api.MsgSums:
		x.Stop, x.Prev, x.Hashes = m.Stop, m.Prev, m.Hashes
	case api.MsgFilter:
		x.Stop, x.Bytes = m.Stop, m.Bytes
	case api.MsgGetData, api.MsgNotFound:
		x.Hashes = m.Hashes
	case api.MsgBlock:
		x.Block = m.Block
	}
	return x
}

// full is a message of which each field says something.
func full(kind int) api.Message {
	return api.Message{Kind: kind, Number: 0x04030201, Nonce: 0x1817161514131211, Prev: hash(100), Stop: hash(101), Hashes: hashes(3), Headers: headers(3), Bytes: sample(30), Block: someBlock(4)}
}

// same holds messages against each other; nil lists and empty ones mean the same.
func same(a, b api.Message) bool {
	return a.Kind == b.Kind && a.Number == b.Number && a.Nonce == b.Nonce && a.Prev == b.Prev && a.Stop == b.Stop &&
		slices.Equal(a.Hashes, b.Hashes) && slices.Equal(a.Headers, b.Headers) && bytes.Equal(a.Bytes, b.Bytes) &&
		a.Block.Header == b.Block.Header && bytes.Equal(blockBytes(a.Block), blockBytes(b.Block))
}

// onWire is a frame's bytes.
func onWire(command string, payload []byte) []byte {
	first := sha256.Sum256(payload)
	second := sha256.Sum256(first[:])
	name := make([]byte, 12)
	copy(name, command)
	return slices.Concat([]byte{0xf9, 0xbe, 0xb4, 0xd9}, name, four(uint32(len(payload))), second[:4], payload)
}

func wantWritten(t *testing.T, name string, m api.Message) {
	t.Helper()
	want := payload(m)
	f, e := message.Encode(m)
	if e != api.OK || f.Command != commands[m.Kind] || !bytes.Equal(f.Payload, want) {
		t.Errorf("%s: %q %d bytes %.60x, %v; not %d bytes %.60x", name, f.Command, len(f.Payload), f.Payload, e, len(want), want)
	}
	if b, e := message.Bytes(m); e != api.OK || !bytes.Equal(b, onWire(commands[m.Kind], want)) {
		t.Errorf("%s: %d bytes on the wire, %v", name, len(b), e)
	}
	wantRead(t, name, commands[m.Kind], want, named(m))
}

func wantNotWritten(t *testing.T, name string, m api.Message, want api.Errno) {
	t.Helper()
	if f, e := message.Encode(m); e != want || f.Command != "" || len(f.Payload) != 0 {
		t.Errorf("%s: %q %d bytes, %v, not %v", name, f.Command, len(f.Payload), e, want)
	}
	if b, e := message.Bytes(m); e != want || len(b) != 0 {
		t.Errorf("%s: %d bytes on the wire, %v, not %v", name, len(b), e, want)
	}
}

func wantRead(t *testing.T, name, command string, b []byte, want api.Message) {
	t.Helper()
	if m, known, e := message.Decode(api.Frame{Command: command, Payload: b}); !same(m, want) || !known || e != api.OK {
		t.Errorf("%s: %.200v %v %v", name, m, known, e)
	}
}

func wantNotRead(t *testing.T, name, command string, b []byte, want api.Errno) {
	t.Helper()
	if m, known, e := message.Decode(api.Frame{Command: command, Payload: b}); !reflect.DeepEqual(m, api.Message{}) || !known || e != want {
		t.Errorf("%s, %s: %.200v %v %v, not %v", command, name, m, known, e, want)
	}
}

// P10.1, P10.3: each kind, of fields that all say something, and of fields that all say nothing.
func TestKinds(t *testing.T) {
	for kind, command := range commands {
		wantWritten(t, command, full(kind))
		wantWritten(t, command+" of nothing", api.Message{Kind: kind})
		wantWritten(t, command+" of empty lists", api.Message{Kind: kind, Hashes: []api.Hash{}, Headers: []api.Header{}, Bytes: []byte{}, Block: api.Block{Txs: []api.Tx{}}})
		wantWritten(t, command+" of the greatest numbers", api.Message{Kind: kind, Number: math.MaxUint32, Nonce: math.MaxUint64})
	}
}

// P10.1, P10.2: payloads written by hand.
func TestByHand(t *testing.T) {
	h := string(bytes.Repeat([]byte{7}, 32))
	g := string(bytes.Repeat([]byte{9}, 32))
	nought := func(n int) string { return strings.Repeat("\x00", n) }
	for _, x := range []struct {
		m    api.Message
		want string
	}{
		{api.Message{Kind: api.MsgVersion, Number: 70015, Nonce: 0x0807060504030201}, "\x7f\x11\x01\x00" + nought(68) + "\x01\x02\x03\x04\x05\x06\x07\x08" + "\x00" + nought(4)},
		{api.Message{Kind: api.MsgVerack}, ""},
		{api.Message{Kind: api.MsgPing, Nonce: 7}, "\x07" + nought(7)},
		{api.Message{Kind: api.MsgPong, Nonce: 1 << 63}, nought(7) + "\x80"},
		{api.Message{Kind: api.MsgGetHeaders, Number: 1, Hashes: []api.Hash{api.Hash([]byte(h))}, Stop: api.Hash([]byte(g))}, "\x01\x00\x00\x00" + "\x01" + h + g},
		{api.Message{Kind: api.MsgHeaders, Headers: make([]api.Header, 2)}, "\x02" + nought(81) + nought(81)},
		{api.Message{Kind: api.MsgGetSums, Number: 0x04030201, Stop: api.Hash([]byte(g))}, "\x00" + "\x01\x02\x03\x04" + g},
		{api.Message{Kind: api.MsgSums, Stop: api.Hash([]byte(g)), Prev: api.Hash([]byte(h)), Hashes: make([]api.Hash, 1)}, "\x00" + g + h + "\x01" + nought(32)},
		{api.Message{Kind: api.MsgGetFilter, Number: 3, Stop: api.Hash([]byte(h))}, "\x00" + "\x03\x00\x00\x00" + h},
		{api.Message{Kind: api.MsgFilter, Stop: api.Hash([]byte(h)), Bytes: []byte("abc")}, "\x00" + h + "\x03abc"},
		{api.Message{Kind: api.MsgGetData, Hashes: []api.Hash{api.Hash([]byte(h)), api.Hash([]byte(g))}}, "\x02" + "\x02\x00\x00\x40" + h + "\x02\x00\x00\x40" + g},
		{api.Message{Kind: api.MsgNotFound, Hashes: []api.Hash{api.Hash([]byte(h))}}, "\x01" + "\x02\x00\x00\x40" + h},
		{api.Message{Kind: api.MsgBlock, Block: api.Block{Header: api.Header{Version: 5}}}, "\x05" + nought(79) + "\x00"},
	} {
		command := commands[x.m.Kind]
		if f, e := message.Encode(x.m); e != api.OK || f.Command != command || string(f.Payload) != x.want {
			t.Errorf("%s: %x %v", command, f.Payload, e)
		}
		wantRead(t, command, command, []byte(x.want), x.m)
	}
}

// limit is a kind with a list, or bytes, of which there may be so many.
type limit struct {
	kind int
	most int
	of   func(kind, n int) api.Message
}

func ofHashes(kind, n int) api.Message {
	return api.Message{Kind: kind, Hashes: hashes(n)}
}

func ofHeaders(kind, n int) api.Message {
	return api.Message{Kind: kind, Headers: headers(n)}
}

func ofBytes(kind, n int) api.Message {
	return api.Message{Kind: kind, Bytes: sample(n)}
}

func limits() []limit {
	return []limit{
		{api.MsgGetHeaders, mostPlaces, ofHashes},
		{api.MsgHeaders, api.MaxHeaders, ofHeaders},
		{api.MsgSums, mostSums, ofHashes},
		{api.MsgFilter, mostFilter, ofBytes},
		{api.MsgGetData, mostItems, ofHashes},
		{api.MsgNotFound, mostItems, ofHashes},
	}
}

// P10.1, P10.2: as many as may be, and one more.
func TestLimits(t *testing.T) {
	for _, x := range limits() {
		for _, n := range []int{0, 1, 2, 0xfc, 0xfd, 0xfe, 0xffff, 0x10000, x.most - 1, x.most} {
			if n <= x.most {
				wantWritten(t, fmt.Sprint(commands[x.kind], " of ", n), x.of(x.kind, n))
			}
		}
		for _, n := range []int{x.most + 1, x.most + 2, 2*x.most + 1} {
			m := x.of(x.kind, n)
			wantNotWritten(t, fmt.Sprint(commands[x.kind], " of ", n), m, api.ErrArg)
			wantNotRead(t, fmt.Sprint("of ", n), commands[x.kind], payload(m), api.ErrFull)
		}
	}
}

// P10.1: fields that the Kind does not name play no part, too long ones neither.
func TestOtherFields(t *testing.T) {
	for kind, command := range commands {
		own := named(full(kind))
		all := api.Message{Kind: kind, Number: 5, Nonce: 6, Prev: hash(7), Stop: hash(8), Hashes: hashes(2001), Headers: headers(101), Bytes: sample(api.MaxPayload), Block: api.Block{Txs: make([]api.Tx, 1)}}
		for i := range reflect.TypeOf(own).NumField() {
			if from := reflect.ValueOf(own).Field(i); !from.IsZero() {
				reflect.ValueOf(&all).Elem().Field(i).Set(from)
			}
		}
		f, e := message.Encode(all)
		if e != api.OK || f.Command != command || !bytes.Equal(f.Payload, payload(own)) {
			t.Errorf("%s: %.60x %v", command, f.Payload, e)
		}
		if b, e := message.Bytes(all); e != api.OK || !bytes.Equal(b, onWire(command, payload(own))) {
			t.Errorf("%s: %.60x %v", command, b, e)
		}
		wantRead(t, command, command, f.Payload, own)
	}
}

// P10.1: kinds that are none.
func TestNoKind(t *testing.T) {
	for _, kind := range []int{0, -1, -5, 14, 15, 100, 1 << 20, 1<<32 + 3, math.MaxInt, math.MinInt} {
		wantNotWritten(t, fmt.Sprint("kind ", kind), full(kind), api.ErrArg)
		wantNotWritten(t, fmt.Sprint("kind ", kind, " of nothing"), api.Message{Kind: kind}, api.ErrArg)
	}
}

// P10.2: commands that are none.
func TestNoCommand(t *testing.T) {
	l := []string{"", "alert", "tx", "cfcheckpt", "getblocks", "Version", "VERACK", "version\x00", "version ", " version", "versio", "versions", "verack\x00\x00\x00\x00\x00\x00", "ping2", "getcfheader", "getcfheaderss", "\x00", "\xff\xfe", strings.Repeat("ping", 1000)}
	for _, c := range l {
		for _, b := range [][]byte{nil, {}, {0}, sample(8), sample(500), make([]byte, api.MaxPayload+1)} {
			if m, known, e := message.Decode(api.Frame{Command: c, Payload: b}); known || e != api.OK || !reflect.DeepEqual(m, api.Message{}) {
				t.Errorf("%.40q, %d bytes: %v %v %v", c, len(b), m, known, e)
			}
		}
	}
}

// P10.1: block.Encode's errors, through a message.
func TestBlockNotWritten(t *testing.T) {
	for _, n := range []int{api.MaxPayload - 1, api.MaxPayload} {
		wantWritten(t, fmt.Sprint("a block of ", n), api.Message{Kind: api.MsgBlock, Block: stuffed(t, n)})
	}
	for _, x := range []struct {
		name string
		b    api.Block
		want api.Errno
	}{
		{"one byte too long", stuffed(t, api.MaxPayload+1), api.ErrLong},
		{"much too long", stuffed(t, 2*api.MaxPayload), api.ErrLong},
		{"2001 transactions", someBlock(2001), api.ErrArg},
		{"one that can't be", api.Block{Txs: make([]api.Tx, 1)}, api.ErrArg},
	} {
		if _, e := block.Encode(x.b); e != x.want {
			t.Fatal(x.name, e)
		}
		wantNotWritten(t, x.name, api.Message{Kind: api.MsgBlock, Block: x.b}, x.want)
	}
	wantWritten(t, "2000 transactions", api.Message{Kind: api.MsgBlock, Block: someBlock(2000)})
}

// P10.2: block.Decode's errors, through a message.
func TestBlockNotRead(t *testing.T) {
	h := headerBytes(headers(1)[0])
	one := txBytes(txs(2)[1])
	for _, x := range []struct {
		name string
		b    []byte
		want api.Errno
	}{
		{"nothing", nil, api.ErrShort},
		{"79 bytes", h[:79], api.ErrShort},
		{"no count", h, api.ErrShort},
		{"too long", make([]byte, api.MaxPayload+1), api.ErrLong},
		{"too long, 2001 transactions", slices.Concat(h, count(2001), make([]byte, api.MaxPayload)), api.ErrLong},
		{"as long as may be, bytes behind", make([]byte, api.MaxPayload), api.ErrTrail},
		{"a count's form", slices.Concat(h, []byte{0xfd, 1, 0}, one), api.ErrForm},
		{"2001 transactions", slices.Concat(h, count(2001)), api.ErrFull},
		{"a transaction's form", slices.Concat(h, count(2), one, one[:4], []byte{0, 2}), api.ErrForm},
		{"a transaction too full", slices.Concat(h, count(2), one, one[:4], count(2001)), api.ErrFull},
		{"a byte behind", slices.Concat(h, count(1), one, []byte{0}), api.ErrTrail},
	} {
		if _, e := block.Decode(x.b); e != x.want {
			t.Fatal(x.name, e)
		}
		wantNotRead(t, x.name, "block", x.b, x.want)
	}
}

// P10.2: payloads cut short at every place, with the rest in the room behind their ends, and without.
func TestShort(t *testing.T) {
	for kind, command := range commands {
		b := payload(full(kind))
		for n := range b {
			wantNotRead(t, fmt.Sprint("cut at ", n), command, b[:n], api.ErrShort)
			wantNotRead(t, fmt.Sprint("cut at ", n), command, bytes.Clone(b[:n]), api.ErrShort)
		}
	}
}

// P10.2: bytes behind the end.
func TestTrail(t *testing.T) {
	for kind, command := range commands {
		b := payload(full(kind))
		for _, behind := range [][]byte{{0}, {0xff}, {0, 0}, sample(100), make([]byte, 1000), b} {
			if kind == api.MsgVersion && len(behind) == 1 || len(behind) == 0 {
				continue
			}
			wantNotRead(t, fmt.Sprint(len(behind), " bytes behind"), command, slices.Concat(b, behind), api.ErrTrail)
		}
		if kind != api.MsgBlock {
			wantNotRead(t, "more bytes behind than a frame has", command, slices.Concat(b, make([]byte, 2*api.MaxPayload)), api.ErrTrail)
		}
	}
}

func versionBytes(agent []byte, behind ...byte) []byte {
	return slices.Concat(four(0x04030201), sample(68), eight(0x1817161514131211), agent, []byte{1, 2, 3, 4}, behind)
}

// P10.2: what is of any kind in a version plays no part, and one more byte may stand behind.
func TestVersion(t *testing.T) {
	want := api.Message{Kind: api.MsgVersion, Number: 0x04030201, Nonce: 0x1817161514131211}
	for _, n := range []int{0, 1, 2, 16, 0xfc, 0xfd, 0xfe, mostAgent - 1, mostAgent} {
		b := versionBytes(text(sample(n)))
		wantRead(t, fmt.Sprint("a text of ", n), "version", b, want)
		for _, x := range []byte{0, 1, 2, 0xff} {
			wantRead(t, fmt.Sprint("a text of ", n, ", and ", x), "version", append(bytes.Clone(b), x), want)
			wantNotRead(t, fmt.Sprint("a text of ", n, ", and two more"), "version", append(bytes.Clone(b), x, 0), api.ErrTrail)
		}
		for cut := range b {
			wantNotRead(t, fmt.Sprint("a text of ", n, ", cut at ", cut), "version", b[:cut], api.ErrShort)
		}
	}
	for _, n := range []int{mostAgent + 1, mostAgent + 2, 0xffff, 0x10000} {
		wantNotRead(t, fmt.Sprint("a text of ", n), "version", versionBytes(text(sample(n))), api.ErrFull)
		wantNotRead(t, fmt.Sprint("a text of ", n, " that is not there"), "version", slices.Concat(sample(80), count(n)), api.ErrFull)
	}
	wantNotRead(t, "a count's form", "version", versionBytes([]byte{0xfd, 0, 0}), api.ErrForm)
	wantNotRead(t, "a huge count's form", "version", versionBytes([]byte{0xff, 0, 0, 0, 0, 0, 0, 0, 0}), api.ErrForm)
	wantNotRead(t, "a huge count", "version", versionBytes(bytes.Repeat([]byte{0xff}, 9)), api.ErrFull)
}

// P10.2: bytes that must be just those, each of them turned.
func TestForm(t *testing.T) {
	for _, x := range []struct {
		kind int
		at   []int
	}{
		{api.MsgGetSums, []int{0}},
		{api.MsgSums, []int{0}},
		{api.MsgGetFilter, []int{0}},
		{api.MsgFilter, []int{0}},
		{api.MsgHeaders, []int{1 + 80, 1 + 81 + 80, 1 + 2*81 + 80}},
		{api.MsgGetData, []int{1, 2, 3, 4, 37, 38, 39, 40, 73, 74, 75, 76}},
		{api.MsgNotFound, []int{1, 2, 3, 4, 37, 38, 39, 40, 73, 74, 75, 76}},
	} {
		for _, at := range x.at {
			for bit := range 8 {
				b := payload(full(x.kind))
				b[at] ^= 1 << bit
				name := fmt.Sprint("bit ", bit, " at ", at)
				wantNotRead(t, name, commands[x.kind], b, api.ErrForm)
				wantNotRead(t, name+", a byte behind", commands[x.kind], append(bytes.Clone(b), 0), api.ErrForm)
				wantNotRead(t, name+", all noughts behind", commands[x.kind], append(bytes.Clone(b[:at+1]), make([]byte, 500)...), api.ErrForm)
			}
		}
	}
}

// P10.2: which other bytes there are plays no part.
func TestOtherBytes(t *testing.T) {
	for _, x := range []struct{ kind, from, to int }{
		{api.MsgPing, 0, 8},
		{api.MsgPong, 0, 8},
		{api.MsgGetHeaders, 0, 4},
		{api.MsgGetHeaders, 5, 5 + 32*4},
		{api.MsgHeaders, 1, 1 + 80},
		{api.MsgHeaders, 1 + 81, 1 + 81 + 80},
		{api.MsgGetSums, 1, 37},
		{api.MsgGetFilter, 1, 37},
		{api.MsgSums, 1, 65},
		{api.MsgFilter, 1, 33},
		{api.MsgGetData, 5, 37},
		{api.MsgNotFound, 5, 37},
	} {
		b := payload(full(x.kind))
		for at := x.from; at < x.to; at++ {
			b[at] ^= 0xff
		}
		m, known, e := message.Decode(api.Frame{Command: commands[x.kind], Payload: b})
		if e != api.OK || !known || !bytes.Equal(payload(m), b) || !reflect.DeepEqual(m, named(m)) {
			t.Errorf("%s: %x %v", commands[x.kind], payload(m), e)
		}
	}
}

// piece is a part of a payload: as it should be, and ways in which it is wrong.
type piece struct {
	good  []byte
	wrong []wrong
}

type wrong struct {
	b    []byte
	want api.Errno
}

func free(n int) piece {
	return piece{good: sample(n)}
}

func nought() piece {
	return piece{[]byte{0}, []wrong{{[]byte{1}, api.ErrForm}, {[]byte{0x80}, api.ErrForm}, {[]byte{0xff}, api.ErrForm}}}
}

func item() piece {
	return piece{[]byte{2, 0, 0, 0x40}, []wrong{{[]byte{2, 0, 0, 0}, api.ErrForm}, {[]byte{1, 0, 0, 0x40}, api.ErrForm}, {[]byte{0, 0, 0, 0x40}, api.ErrForm}, {[]byte{2, 0, 0, 40}, api.ErrForm}, {[]byte{0x40, 0, 0, 2}, api.ErrForm}}}
}

func counted(n, most int) piece {
	return piece{count(n), []wrong{
		{[]byte{0xfd, byte(n), 0}, api.ErrForm},
		{[]byte{0xfe, byte(most + 1), byte((most + 1) >> 8), 0, 0}, api.ErrForm},
		{append([]byte{0xff}, eight(math.MaxUint32)...), api.ErrForm},
		{append([]byte{0xff}, eight(math.MaxUint64)...), api.ErrFull},
		{append([]byte{0xff}, eight(1<<63)...), api.ErrFull},
		{append([]byte{0xff}, eight(1<<32)...), api.ErrFull},
		{count(most + 1), api.ErrFull},
	}}
}

// pieces are payloads, part by part.
func pieces() map[string][]piece {
	return map[string][]piece{
		"version":      {free(4 + 68 + 8), counted(5, mostAgent), free(5), free(4)},
		"verack":       {},
		"ping":         {free(8)},
		"pong":         {free(8)},
		"getheaders":   {free(4), counted(2, mostPlaces), free(64), free(32)},
		"headers":      {counted(2, api.MaxHeaders), free(80), nought(), free(80), nought()},
		"getcfheaders": {nought(), free(36)},
		"cfheaders":    {nought(), free(64), counted(3, mostSums), free(96)},
		"getcfilters":  {nought(), free(36)},
		"cfilter":      {nought(), free(32), counted(9, mostFilter), free(9)},
		"getdata":      {counted(2, mostItems), item(), free(32), item(), free(32)},
		"notfound":     {counted(2, mostItems), item(), free(32), item(), free(32)},
	}
}

func join(l []piece) []byte {
	var b []byte
	for _, p := range l {
		b = append(b, p.good...)
	}
	return b
}

// P10.2: each part that is wrong, with good ones ahead of it, and good ones, wrong ones, too few and too many behind it.
func TestFirstError(t *testing.T) {
	for command, l := range pieces() {
		if _, known, e := message.Decode(api.Frame{Command: command, Payload: join(l)}); !known || e != api.OK {
			t.Errorf("%s: %v %v", command, known, e)
		}
		for i, p := range l {
			for _, w := range p.wrong {
				ahead := slices.Concat(join(l[:i]), w.b)
				name := fmt.Sprintf("part %d is %x", i, w.b)
				wantNotRead(t, name, command, ahead, w.want)
				wantNotRead(t, name+", all behind", command, slices.Concat(ahead, join(l[i+1:])), w.want)
				wantNotRead(t, name+", and more", command, slices.Concat(ahead, join(l[i+1:]), sample(2)), w.want)
				for j := i + 1; j < len(l); j++ {
					for _, v := range l[j].wrong {
						wantNotRead(t, name+", and another one", command, slices.Concat(ahead, join(l[i+1:j]), v.b, join(l[j+1:])), w.want)
					}
				}
				for n := range w.b {
					cut := slices.Concat(join(l[:i]), w.b[:n])
					wantNotRead(t, name+", cut short", command, cut, api.ErrShort)
				}
			}
		}
	}
}

// P10.2: a list whose count is above what is there ends where the bytes do.
func TestCountAbove(t *testing.T) {
	countAt := map[int]int{api.MsgGetHeaders: 4, api.MsgSums: 65, api.MsgFilter: 33} // the others begin with it
	for _, x := range limits() {
		b := payload(x.of(x.kind, 1))
		at := countAt[x.kind]
		for _, n := range []int{2, x.most} {
			above := slices.Concat(b[:at], count(n), b[at+1:at+2])
			wantNotRead(t, fmt.Sprint("a count of ", n), commands[x.kind], above, api.ErrShort)
		}
	}
}

// P10.1, P10.3: through frame.Reader, and back.
func TestThroughFrames(t *testing.T) {
	r := frame.New()
	for kind := api.MsgVersion; kind <= api.MsgNotFound; kind++ {
		b, e := message.Bytes(full(kind))
		if e != api.OK {
			t.Fatal(kind, e)
		}
		l, e := r.Feed(b)
		if e != api.OK || len(l) != 1 {
			t.Fatal(kind, len(l), e)
		}
		if m, known, e := message.Decode(l[0]); e != api.OK || !known || !same(m, named(full(kind))) {
			t.Errorf("kind %d: %.200v %v %v", kind, m, known, e)
		}
	}
}

// P10.3: any fields, there and back.
func TestBack(t *testing.T) {
	r := rand.New(rand.NewSource(1))
	for range 3000 {
		m := api.Message{Kind: 1 + r.Intn(13), Number: r.Uint32(), Nonce: r.Uint64(), Prev: hash(r.Int()), Stop: hash(r.Int()), Hashes: hashes(r.Intn(102)), Headers: headers(r.Intn(101)), Bytes: sample(r.Intn(400)), Block: someBlock(r.Intn(6))}
		wantWritten(t, commands[m.Kind], m)
	}
}

// Payloads of any kind end, and panic nowhere; those of a message are its payload again.
func TestAnyBytes(t *testing.T) {
	r := rand.New(rand.NewSource(2))
	read := 0
	for range 30000 {
		m := full(1 + r.Intn(13))
		command := commands[m.Kind]
		b := payload(m)
		for range r.Intn(3) {
			if len(b) > 0 {
				b[r.Intn(min(len(b), 120))] = []byte{0, 1, 2, 0x40, 0xfd, 0xff, byte(r.Intn(256))}[r.Intn(7)]
			}
		}
		got, known, e := message.Decode(api.Frame{Command: command, Payload: b})
		if e != api.OK {
			wantNotRead(t, "any bytes", command, b, e)
			continue
		}
		read++
		if !known || got.Kind != m.Kind || !reflect.DeepEqual(got, named(got)) {
			t.Fatalf("%s %x: %v", command, b, got)
		}
		f, e := message.Encode(got)
		if e != api.OK || f.Command != command || m.Kind != api.MsgVersion && !bytes.Equal(f.Payload, b) {
			t.Fatalf("%s %x: %x %v", command, b, f.Payload, e)
		}
	}
	if read < 5000 {
		t.Errorf("only %d were messages", read)
	}
}

// span is where a list's memory, room behind its end included, begins and ends.
type span struct{ from, to uintptr }

// spans are those of all lists within a value.
func spans(v reflect.Value) []span {
	var l []span
	switch v.Kind() {
	case reflect.Slice:
		if v.Cap() > 0 {
			l = append(l, span{v.Pointer(), v.Pointer() + uintptr(v.Cap())*v.Type().Elem().Size()})
		}
		for i := range v.Len() {
			l = append(l, spans(v.Index(i))...)
		}
	case reflect.Struct:
		for i := range v.NumField() {
			l = append(l, spans(v.Field(i))...)
		}
	}
	return l
}

// wantApart asks whether no two lists within all these share memory.
func wantApart(t *testing.T, name string, all ...any) {
	t.Helper()
	var l []span
	for _, x := range all {
		l = append(l, spans(reflect.ValueOf(x))...)
	}
	slices.SortFunc(l, func(a, b span) int { return int(a.from) - int(b.from) })
	for i := 1; i < len(l); i++ {
		if l[i].from < l[i-1].to {
			t.Errorf("%s: two of %d lists share memory", name, len(l))
			return
		}
	}
}

// roomy is a list with room behind its end, in which something stands.
func roomy[T any](l []T, behind ...T) []T {
	return append(slices.Clone(l), behind...)[:len(l)]
}

func roomyMessage(m api.Message) api.Message {
	m.Hashes = roomy(m.Hashes, hashes(9)[5:]...)
	m.Headers = roomy(m.Headers, headers(9)[5:]...)
	m.Bytes = roomy(m.Bytes, sample(300)...)
	m.Block.Txs = roomy(m.Block.Txs, txs(9)[5:]...)
	return m
}

// all are a message's lists, and what stands in the room behind their ends.
func all(m api.Message) string {
	return fmt.Sprint(m, whole(m.Hashes), whole(m.Headers), whole(m.Bytes), whole(m.Block.Txs))
}

// What is handed in is not changed, the room behind the ends of all lists included.
func TestArgumentsStay(t *testing.T) {
	for kind, command := range commands {
		for _, m := range []api.Message{full(kind), {Kind: kind}, {Kind: kind, Hashes: hashes(2001), Headers: headers(101), Bytes: sample(300), Block: api.Block{Txs: make([]api.Tx, 2)}}} {
			arg := roomyMessage(m)
			before := all(arg)
			message.Encode(arg)
			message.Bytes(arg)
			if all(arg) != before {
				t.Errorf("%s was changed", command)
			}
		}
		b := payload(full(kind))
		for _, n := range []int{len(b), len(b) - 1, len(b) / 2, 0} {
			arg := roomy(b[:max(n, 0)], sample(300)...)
			before := bytes.Clone(whole(arg))
			message.Decode(api.Frame{Command: command, Payload: arg})
			if !bytes.Equal(whole(arg), before) {
				t.Errorf("%s: the payload was changed", command)
			}
		}
	}
}

// No answer shares memory with what came in, with another answer, or with another list of its own.
func TestAnswersNew(t *testing.T) {
	for kind, command := range commands {
		arg := roomyMessage(full(kind))
		first, e := message.Encode(arg)
		second, _ := message.Encode(arg)
		wire, _ := message.Bytes(arg)
		other, _ := message.Bytes(arg)
		if e != api.OK {
			t.Fatal(command, e)
		}
		wantApart(t, command, arg, first, second, wire, other)
		in := roomy(first.Payload, sample(300)...)
		one, _, e := message.Decode(api.Frame{Command: command, Payload: in})
		two, _, _ := message.Decode(api.Frame{Command: command, Payload: in})
		if e != api.OK {
			t.Fatal(command, e)
		}
		wantApart(t, command+" read", in, one, two)
	}
}

// No answer hangs on what becomes of its argument later.
func TestArgumentsNotKept(t *testing.T) {
	for kind, command := range commands {
		arg := full(kind)
		f, _ := message.Encode(arg)
		clear(arg.Hashes)
		clear(arg.Headers)
		clear(arg.Bytes)
		clear(arg.Block.Txs[1].In[0].Witness[0])
		if !bytes.Equal(f.Payload, payload(full(kind))) {
			t.Errorf("%s: the payload hangs on the message", command)
		}
		m, _, _ := message.Decode(f)
		clear(f.Payload)
		if !same(m, named(full(kind))) {
			t.Errorf("%s: the message hangs on the payload", command)
		}
	}
}
