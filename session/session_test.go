package session_test

import (
	"bytes"
	"crypto/sha256"
	"encoding/binary"
	"fmt"
	"math"
	"math/rand"
	"reflect"
	"runtime"
	"slices"
	"testing"
	"time"

	"sporran/api"
	"sporran/frame"
	"sporran/header"
	"sporran/message"
	"sporran/session"
)

func want(t *testing.T, name string, got, want api.Errno) {
	t.Helper()
	if got != want {
		t.Errorf("%s: %v, not %v", name, got, want)
	}
}

func whole[T any](l []T) []T {
	return l[:cap(l)]
}

func hash(n int) api.Hash {
	return sha256.Sum256([]byte(fmt.Sprint("hash ", n)))
}

func hashes(n int) []api.Hash {
	l := make([]api.Hash, n)
	for i := range l {
		l[i] = hash(i)
	}
	return l
}

func someBlock(n int) api.Block {
	return api.Block{
		Header: api.Header{Version: uint32(n), Prev: hash(n), Time: 7, Bits: 0x207fffff},
		Txs:    []api.Tx{{In: []api.In{{Script: []byte{1, 2}, Witness: [][]byte{{3}, nil}}}, Out: []api.Out{{Value: 5, Script: []byte{0x51}}}}},
	}
}

func blockID(n int) api.Hash {
	return header.ID(someBlock(n).Header)
}

// wire is the bytes of messages, one behind the other.
func wire(l ...api.Message) []byte {
	var all []byte
	for _, m := range l {
		b, e := message.Bytes(m)
		if e != api.OK {
			panic(e)
		}
		all = append(all, b...)
	}
	return all
}

// framed is the bytes of a frame, whatever its payload means.
func framed(command string, payload ...byte) []byte {
	b, e := frame.Encode(api.Frame{Command: command, Payload: payload})
	if e != api.OK {
		panic(e)
	}
	return b
}

// Messages of the tests.
var (
	version = api.Message{Kind: api.MsgVersion, Number: 70016, Nonce: 3}
	verack  = api.Message{Kind: api.MsgVerack}
)

func ping(nonce uint64) api.Message {
	return api.Message{Kind: api.MsgPing, Nonce: nonce}
}

func pong(nonce uint64) api.Message {
	return api.Message{Kind: api.MsgPong, Nonce: nonce}
}

// full is a message of each kind, of which each field that it names says something.
func full() map[int]api.Message {
	b := someBlock(1)
	return map[int]api.Message{
		api.MsgVersion:    version,
		api.MsgVerack:     verack,
		api.MsgPing:       ping(9),
		api.MsgPong:       pong(9),
		api.MsgGetHeaders: {Kind: api.MsgGetHeaders, Number: 5, Hashes: hashes(3), Stop: hash(8)},
		api.MsgHeaders:    {Kind: api.MsgHeaders, Headers: []api.Header{b.Header, someBlock(2).Header}},
		api.MsgGetSums:    {Kind: api.MsgGetSums, Number: 6, Stop: hash(1)},
		api.MsgSums:       {Kind: api.MsgSums, Stop: hash(1), Prev: hash(2), Hashes: hashes(2)},
		api.MsgGetFilter:  {Kind: api.MsgGetFilter, Number: 7, Stop: hash(1)},
		api.MsgFilter:     {Kind: api.MsgFilter, Stop: hash(1), Bytes: []byte{1, 2, 3}},
		api.MsgGetData:    {Kind: api.MsgGetData, Hashes: []api.Hash{blockID(1)}},
		api.MsgBlock:      {Kind: api.MsgBlock, Block: b},
		api.MsgNotFound:   {Kind: api.MsgNotFound, Hashes: []api.Hash{blockID(1)}},
	}
}

// all are the messages of full, by rising kinds.
func all() []api.Message {
	var l []api.Message
	for kind := api.MsgVersion; kind <= api.MsgNotFound; kind++ {
		l = append(l, full()[kind])
	}
	return l
}

// requests are one of each kind.
func requests() []api.Message {
	m := full()
	return []api.Message{m[api.MsgGetHeaders], m[api.MsgGetSums], m[api.MsgGetFilter], m[api.MsgGetData]}
}

// answered is what answers each of these.
func answered() []api.Message {
	m := full()
	return []api.Message{m[api.MsgHeaders], m[api.MsgSums], m[api.MsgFilter], m[api.MsgBlock]}
}

// text is a message as it can be held against another one: nil lists and empty ones mean the same.
func text(l ...api.Message) string {
	return fmt.Sprint(l)
}

func wantFeed(t *testing.T, name string, s *session.Session, b []byte, told []api.Message, back []byte) {
	t.Helper()
	got, out, e := s.Feed(b)
	want(t, name+": Feed", e, api.OK)
	if text(got...) != text(told...) {
		t.Errorf("%s: told %.200s, not %.200s", name, text(got...), text(told...))
	}
	if !bytes.Equal(out, back) {
		t.Errorf("%s: %x for the peer, not %x", name, out, back)
	}
}

// wantLetGo asks that bytes have nothing told and nothing sent.
func wantLetGo(t *testing.T, name string, s *session.Session, b []byte) {
	t.Helper()
	wantFeed(t, name, s, b, nil, nil)
}

func wantBan(t *testing.T, name string, s *session.Session, b []byte) {
	t.Helper()
	told, back, e := s.Feed(b)
	want(t, name+": Feed", e, api.ErrBan)
	if len(told) != 0 || len(back) != 0 {
		t.Errorf("%s: told %.200s, %x for the peer", name, text(told...), back)
	}
	if s.Ready() {
		t.Errorf("%s: is ready", name)
	}
}

// wantDead asks that a session has gone for ever.
func wantDead(t *testing.T, name string, s *session.Session) {
	t.Helper()
	for _, b := range [][]byte{nil, {}, wire(version), wire(verack), wire(version, verack), wire(ping(1)), framed("other"), {0}} {
		wantBan(t, name+", for ever", s, b)
	}
	for _, m := range append(all(), api.Message{}) {
		wantAskNot(t, name+", for ever", s, m, api.ErrBan)
	}
}

func wantAsk(t *testing.T, name string, s *session.Session, m api.Message, now int) {
	t.Helper()
	if b, e := s.Ask(m, now); e != api.OK || !bytes.Equal(b, wire(m)) {
		t.Errorf("%s: Ask %x, %v; not %x", name, b, e, wire(m))
	}
}

func wantAskNot(t *testing.T, name string, s *session.Session, m api.Message, e api.Errno) {
	t.Helper()
	b, got := s.Ask(m, 5)
	want(t, fmt.Sprintf("%s: Ask %d", name, m.Kind), got, e)
	if len(b) != 0 {
		t.Errorf("%s: Ask %d: %x", name, m.Kind, b)
	}
}

func wantWaits(t *testing.T, name string, s *session.Session, m api.Message) {
	t.Helper()
	if got, ok := s.Waits(); text(got) != text(m) || !ok {
		t.Errorf("%s: Waits %.200s, %v; not %.200s", name, text(got), ok, text(m))
	}
}

func wantFree(t *testing.T, name string, s *session.Session) {
	t.Helper()
	if got, ok := s.Waits(); !reflect.DeepEqual(got, api.Message{}) || ok {
		t.Errorf("%s: Waits %.200s, %v", name, text(got), ok)
	}
	for _, now := range someTimes {
		if s.Late(now) {
			t.Errorf("%s: is late at %d, though nothing waits", name, now)
		}
	}
}

func wantReady(t *testing.T, name string, s *session.Session, ready bool) {
	t.Helper()
	if s.Ready() != ready {
		t.Errorf("%s: Ready %v", name, !ready)
	}
}

var someTimes = []int{math.MinInt, -1000, -1, 0, 1, 19, 20, 21, 1000, 1 << 40, math.MaxInt}

// fresh is a session that heard messages, and did not mind.
func fresh(t *testing.T, heard ...api.Message) *session.Session {
	t.Helper()
	s := session.New(11)
	for _, m := range heard {
		if _, _, e := s.Feed(wire(m)); e != api.OK {
			t.Fatal(m, e)
		}
	}
	return s
}

func ready(t *testing.T) *session.Session {
	t.Helper()
	return fresh(t, version, verack)
}

// asking is one that waits for an answer since now is 100.
func asking(t *testing.T, m api.Message) *session.Session {
	t.Helper()
	s := ready(t)
	wantAsk(t, "asking", s, m, 100)
	return s
}

// P20.1: a new one is not ready, and waits for nothing.
func TestNew(t *testing.T) {
	for _, nonce := range []uint64{0, 1, math.MaxUint64} {
		s := session.New(nonce)
		if s == nil {
			t.Fatal("none")
		}
		wantReady(t, "new", s, false)
		wantFree(t, "new", s)
		wantLetGo(t, "new", s, nil)
		for _, m := range all() {
			wantAskNot(t, "new", s, m, api.ErrPeer)
		}
	}
}

// P20.1: hello is a MsgVersion of that number and that nonce, once.
func TestHello(t *testing.T) {
	for _, nonce := range []uint64{0, 1, 0x1817161514131211, math.MaxUint64} {
		s := session.New(nonce)
		payload := slices.Concat([]byte{0x7f, 0x11, 1, 0}, make([]byte, 68), binary.LittleEndian.AppendUint64(nil, nonce), make([]byte, 5))
		if got := s.Hello(); !bytes.Equal(got, framed("version", payload...)) {
			t.Errorf("%d: %x", nonce, got)
		}
		for range 3 {
			if got := s.Hello(); len(got) != 0 {
				t.Errorf("%d: once more: %x", nonce, got)
			}
		}
		wantReady(t, "said hello", s, false)
		wantFree(t, "said hello", s)
	}
}

// P20.1: hello can be said later; whether it was plays no part.
func TestHelloLate(t *testing.T) {
	s := ready(t)
	wantAsk(t, "ahead of hello", s, requests()[0], 1)
	want := wire(api.Message{Kind: api.MsgVersion, Number: 70015, Nonce: 11})
	if got := s.Hello(); !bytes.Equal(got, want) {
		t.Errorf("%x", got)
	}
	wantFeed(t, "behind hello", s, wire(answered()[0]), answered()[:1], nil)
	if got := s.Hello(); len(got) != 0 {
		t.Errorf("once more: %x", got)
	}
}

// P20.2, P20.3: it is ready as soon as both have come, in whatever order; a MsgVersion has a MsgVerack sent.
func TestReady(t *testing.T) {
	s := session.New(1)
	wantFeed(t, "version", s, wire(version), nil, wire(verack))
	wantReady(t, "version", s, false)
	wantLetGo(t, "verack", s, wire(verack))
	wantReady(t, "both", s, true)

	s = session.New(1)
	wantLetGo(t, "verack ahead", s, wire(verack))
	wantReady(t, "verack", s, false)
	wantFeed(t, "version behind", s, wire(version), nil, wire(verack))
	wantReady(t, "both", s, true)

	for _, l := range [][]api.Message{{version, verack}, {verack, version}} {
		s = session.New(1)
		wantFeed(t, "both at once", s, wire(l...), nil, wire(verack))
		wantReady(t, "both at once", s, true)
	}
	for _, m := range []api.Message{{Kind: api.MsgVersion}, {Kind: api.MsgVersion, Number: math.MaxUint32, Nonce: 1}} {
		s = session.New(1)
		wantFeed(t, "whatever it says", s, wire(m, verack), nil, wire(verack))
		wantReady(t, "whatever it says", s, true)
	}
}

// P20.2: one of both once more is wrong, whatever came else.
func TestHelloTwice(t *testing.T) {
	for _, l := range [][]api.Message{
		{version, version}, {verack, verack},
		{version, verack, version}, {version, verack, verack},
		{verack, version, version}, {verack, version, verack},
	} {
		last := len(l) - 1
		name := text(l...)
		s := fresh(t, l[:last]...)
		wantBan(t, name, s, wire(l[last]))
		wantDead(t, name, s)
		s = session.New(1)
		wantBan(t, name+" at once", s, wire(l...))
		wantDead(t, name+" at once", s)
	}
}

// beginnings are what a peer may have said without being ready.
func beginnings() map[string][]api.Message {
	return map[string][]api.Message{"nothing": nil, "version": {version}, "verack": {verack}}
}

// P20.2, example 1: any other message ahead of both is wrong.
func TestEarly(t *testing.T) {
	for name, heard := range beginnings() {
		for _, m := range all() {
			if m.Kind == api.MsgVersion || m.Kind == api.MsgVerack {
				continue
			}
			s := fresh(t, heard...)
			wantBan(t, name, s, wire(m))
			wantDead(t, name, s)
			s = fresh(t, heard...)
			wantBan(t, name+", both behind", s, wire(m, version, verack))
			wantDead(t, name+", both behind", s)
		}
	}
	s := session.New(1)
	wantBan(t, "a ping between", s, wire(version, ping(1), verack))
	wantDead(t, "a ping between", s)
}

// P20.2: a command that is none is let go at any time, whatever it says.
func TestNoCommand(t *testing.T) {
	sets := beginnings()
	sets["both"] = []api.Message{version, verack}
	for name, heard := range sets {
		s := fresh(t, heard...)
		for _, command := range []string{"other", "versio", "versions", "verac", "inv", "tx", "sendheaders", "a", "zzzzzzzzzzzz"} {
			wantLetGo(t, name, s, framed(command))
			wantLetGo(t, name, s, framed(command, 1, 2, 3))
			wantReady(t, name, s, len(heard) == 2)
		}
	}
	s := session.New(1)
	wantFeed(t, "between", s, slices.Concat(framed("one"), wire(version), framed("two"), wire(verack), framed("three"), wire(ping(4)), framed("four")), nil, wire(verack, pong(4)))
	wantReady(t, "between", s, true)
}

// unread are frames that can't be read, of commands that are ones.
func unread() map[string][]byte {
	long := bytes.Repeat([]byte{1}, 200)
	l := map[string][]byte{
		"verack with a byte": framed("verack", 0),
		"ping of 7":          framed("ping", long[:7]...),
		"ping of 9":          framed("ping", long[:9]...),
		"pong of nothing":    framed("pong"),
		"version, short":     framed("version", long[:80]...),
		"headers, too many":  framed("headers", 101),
		"getcfilters, form":  framed("getcfilters", long[:37]...),
		"block, short":       framed("block", long[:79]...),
		"getdata, another":   framed("getdata", append([]byte{1, 1, 0, 0, 0x40}, long[:32]...)...),
	}
	for _, command := range []string{"version", "ping", "getheaders", "headers", "getcfheaders", "cfheaders", "getcfilters", "cfilter", "getdata", "block", "notfound"} {
		l[command+" of nothing"] = framed(command)
	}
	return l
}

// P20.2: a message that can't be read is wrong at any time.
func TestUnread(t *testing.T) {
	sets := beginnings()
	sets["both"] = []api.Message{version, verack}
	for name, heard := range sets {
		for what, b := range unread() {
			s := fresh(t, heard...)
			wantBan(t, name+", "+what, s, b)
			wantDead(t, name+", "+what, s)
		}
	}
}

// faults are bytes that are no frame, as soon as all of them are there.
func faults() map[string][]byte {
	magic, sum := wire(ping(1)), wire(ping(1))
	magic[0] ^= 1
	sum[20] ^= 1
	long := wire(verack)
	binary.LittleEndian.PutUint32(long[16:], api.MaxPayload+1)
	return map[string][]byte{"magic": magic[:24], "sum": sum, "long": long, "command": append(wire(verack)[:4], make([]byte, 20)...)}
}

// P20.2: the Reader's fault is wrong, behind the frames that came ahead of it.
func TestFaults(t *testing.T) {
	sets := beginnings()
	sets["both"] = []api.Message{version, verack}
	for name, heard := range sets {
		for what, b := range faults() {
			s := fresh(t, heard...)
			wantLetGo(t, name+", "+what+", not all there", s, b[:len(b)-1])
			wantBan(t, name+", "+what, s, b[len(b)-1:])
			wantDead(t, name+", "+what, s)
		}
	}
	for what, b := range faults() {
		for i, m := range requests() {
			s := asking(t, m)
			wantBan(t, what, s, slices.Concat(wire(ping(1), answered()[i], ping(2)), b))
			wantFree(t, what, s)
			wantDead(t, what, s)
			s = asking(t, m)
			wantBan(t, what, s, slices.Concat(b, wire(answered()[i])))
			wantWaits(t, what, s, m)
			wantDead(t, what, s)
		}
	}
}

// P20.2: a ping has a pong of its nonce sent, in order.
func TestPing(t *testing.T) {
	s := ready(t)
	for _, nonce := range []uint64{0, 1, 0x1817161514131211, math.MaxUint64} {
		wantFeed(t, "ping", s, wire(ping(nonce)), nil, wire(pong(nonce)))
		wantFeed(t, "again", s, wire(ping(nonce)), nil, wire(pong(nonce)))
	}
	wantFeed(t, "many", s, wire(ping(3), ping(1), ping(2), ping(1)), nil, wire(pong(3), pong(1), pong(2), pong(1)))
	s = session.New(1)
	wantFeed(t, "at once", s, wire(verack, version, ping(5), ping(6)), nil, wire(verack, pong(5), pong(6)))
}

// P20.2: where no request waits, all others are let go.
func TestLetGo(t *testing.T) {
	s := ready(t)
	for range 2 {
		for _, m := range all()[api.MsgPing:] {
			wantLetGo(t, text(m), s, wire(m))
			wantReady(t, text(m), s, true)
			wantFree(t, text(m), s)
		}
	}
}

// reply is what may come for a request, and whether it answers that.
type reply struct {
	m       api.Message
	answers bool
}

// replies are those to each request.
func replies() map[int][]reply {
	stop := func(kind int, id api.Hash) api.Message {
		return api.Message{Kind: kind, Stop: id}
	}
	lost := func(l ...api.Hash) api.Message {
		return api.Message{Kind: api.MsgNotFound, Hashes: l}
	}
	near, far := hash(1), hash(1)
	near[0] ^= 1
	far[31] ^= 128
	nearBlock, farBlock := someBlock(1), someBlock(1)
	nearBlock.Header.Nonce++
	farBlock.Header.Prev[31] ^= 1
	id := blockID(1)
	empty, others := someBlock(1), someBlock(1)
	empty.Txs = nil
	others.Txs = someBlock(2).Txs
	others.Txs[0].Lock = 9
	other := id
	other[31] ^= 1
	block := func(b api.Block) api.Message {
		return api.Message{Kind: api.MsgBlock, Block: b}
	}
	return map[int][]reply{
		api.MsgGetHeaders: {
			{api.Message{Kind: api.MsgHeaders}, true},
			{full()[api.MsgHeaders], true},
			{api.Message{Kind: api.MsgHeaders, Headers: make([]api.Header, api.MaxHeaders)}, true},
		},
		api.MsgGetSums: {
			{stop(api.MsgSums, hash(1)), true},
			{full()[api.MsgSums], true},
			{api.Message{Kind: api.MsgSums, Stop: hash(1), Hashes: hashes(2000)}, true},
			{stop(api.MsgSums, hash(2)), false},
			{stop(api.MsgSums, near), false},
			{stop(api.MsgSums, far), false},
			{stop(api.MsgSums, api.Hash{}), false},
			{api.Message{Kind: api.MsgSums, Stop: hash(2), Prev: hash(1), Hashes: []api.Hash{hash(1)}}, false},
		},
		api.MsgGetFilter: {
			{stop(api.MsgFilter, hash(1)), true},
			{full()[api.MsgFilter], true},
			{stop(api.MsgFilter, hash(2)), false},
			{stop(api.MsgFilter, near), false},
			{stop(api.MsgFilter, far), false},
			{stop(api.MsgFilter, api.Hash{}), false},
		},
		api.MsgGetData: {
			{block(someBlock(1)), true},
			{block(empty), true},
			{block(others), true},
			{block(someBlock(2)), false},
			{block(nearBlock), false},
			{block(farBlock), false},
			{lost(id), true},
			{lost(), false},
			{lost(other), false},
			{lost(id, id), false},
			{lost(id, other), false},
			{lost(other, id), false},
		},
	}
}

// P20.2: what answers the request that waits is told, whatever else it says, and none waits any more; the rest is let go, and it waits on.
func TestReplies(t *testing.T) {
	for _, request := range requests() {
		for _, x := range replies()[request.Kind] {
			name := fmt.Sprintf("request %d, %.100s", request.Kind, text(x.m))
			s := asking(t, request)
			if !x.answers {
				wantLetGo(t, name, s, wire(x.m))
				wantWaits(t, name, s, request)
				wantAskNot(t, name, s, request, api.ErrPeer)
				continue
			}
			wantFeed(t, name, s, wire(x.m), []api.Message{x.m}, nil)
			wantFree(t, name, s)
			wantLetGo(t, name+" again", s, wire(x.m))
			wantReady(t, name, s, true)
		}
	}
}

// P20.2: no message of another kind answers a request, whatever it has in common with it.
func TestOtherKinds(t *testing.T) {
	id := blockID(1)
	for _, request := range []api.Message{
		{Kind: api.MsgGetHeaders, Hashes: []api.Hash{id}, Stop: id},
		{Kind: api.MsgGetSums, Stop: id},
		{Kind: api.MsgGetFilter, Stop: id},
		{Kind: api.MsgGetData, Hashes: []api.Hash{id}},
	} {
		for kind := api.MsgPong; kind <= api.MsgNotFound; kind++ {
			m := api.Message{Kind: kind, Stop: id, Hashes: []api.Hash{id}, Headers: []api.Header{someBlock(1).Header}, Block: someBlock(1)}
			answers := map[int][]int{
				api.MsgGetHeaders: {api.MsgHeaders},
				api.MsgGetSums:    {api.MsgSums},
				api.MsgGetFilter:  {api.MsgFilter},
				api.MsgGetData:    {api.MsgBlock, api.MsgNotFound},
			}[request.Kind]
			s := asking(t, request)
			told, back, e := s.Feed(wire(m))
			_, waits := s.Waits()
			if is := slices.Contains(answers, kind); len(told) > 0 != is || waits == is || len(back) != 0 || e != api.OK {
				t.Errorf("%d for request %d: told %d, waits %v, %x, %v", kind, request.Kind, len(told), waits, back, e)
			}
		}
		s := asking(t, request)
		wantFeed(t, "ping", s, wire(ping(7)), nil, wire(pong(7)))
		wantWaits(t, "ping", s, request)
	}
}

// P20.2: what is told has the fields alone that its Kind names, as it came.
func TestTold(t *testing.T) {
	for i, request := range requests() {
		m := answered()[i]
		s := asking(t, request)
		told, _, _ := s.Feed(wire(m))
		if len(told) != 1 || text(told...) != text(m) {
			t.Errorf("%.200s, not %.200s", text(told...), text(m))
		}
	}
}

// P20.2: bytes for the peer and what is told, in order; of answers just the first one.
func TestAtOnce(t *testing.T) {
	for i, request := range requests() {
		other := requests()[(i+1)%4]
		m, no := answered()[i], answered()[(i+1)%4]
		s := asking(t, request)
		wantFeed(t, "at once", s, wire(ping(1), no, ping(2), m, ping(3), m, no, pong(4)), []api.Message{m}, wire(pong(1), pong(2), pong(3)))
		wantFree(t, "at once", s)
		wantAsk(t, "another one", s, other, 7)
		wantLetGo(t, "the one before", s, wire(m))
		wantFeed(t, "another one", s, wire(no), []api.Message{no}, nil)
	}
}

// P20.2: with ErrBan nothing is told and nothing is sent, but what came ahead was taken; what came behind was not.
func TestBanTaken(t *testing.T) {
	wrongs := map[string][]byte{"version": wire(version), "verack": wire(verack)}
	for name, b := range unread() {
		wrongs[name] = b
	}
	for name, wrong := range wrongs {
		for i, request := range requests() {
			m := wire(answered()[i])
			s := asking(t, request)
			wantBan(t, name, s, slices.Concat(wire(ping(1)), m, wire(ping(2)), wrong, wire(ping(3))))
			wantFree(t, name+", ahead", s)
			wantDead(t, name, s)
			wantFree(t, name+", ahead", s)

			s = asking(t, request)
			wantBan(t, name, s, slices.Concat(wire(ping(1)), wrong, m))
			wantWaits(t, name+", behind", s, request)
			wantBan(t, name, s, m)
			wantWaits(t, name+", behind", s, request)
			if s.Late(119) || !s.Late(120) {
				t.Errorf("%s: it waits since 100", name)
			}
		}
	}
}

// P20.3: a request is sent as its bytes, if none waits; when it is answered, the next one can be.
func TestAsk(t *testing.T) {
	s := ready(t)
	for range 3 {
		for i, request := range requests() {
			wantAsk(t, "free", s, request, 1)
			wantWaits(t, "asked", s, request)
			wantReady(t, "asked", s, true)
			for _, m := range append(all(), api.Message{}) {
				wantAskNot(t, "one waits", s, m, api.ErrPeer)
			}
			wantWaits(t, "asked", s, request)
			wantFeed(t, "answered", s, wire(answered()[i]), answered()[i:i+1], nil)
			wantFree(t, "answered", s)
		}
	}
}

// P20.3: it must be ready, whatever is asked.
func TestAskEarly(t *testing.T) {
	for name, heard := range beginnings() {
		s := fresh(t, heard...)
		for _, m := range append(all(), api.Message{}) {
			wantAskNot(t, name, s, m, api.ErrPeer)
		}
		wantFree(t, name, s)
	}
}

// P20.3: what is no request is not asked, nor what can't be sent; nothing waits then.
func TestAskNot(t *testing.T) {
	s := ready(t)
	var none []api.Message
	for _, m := range all() {
		switch m.Kind {
		case api.MsgGetHeaders, api.MsgGetSums, api.MsgGetFilter, api.MsgGetData:
		default:
			m.Hashes = []api.Hash{{}}
			none = append(none, m)
		}
	}
	for _, kind := range []int{0, -1, 14, math.MinInt, math.MaxInt} {
		none = append(none, api.Message{Kind: kind, Hashes: hashes(1)})
	}
	for _, n := range []int{0, 2, 3, 1000, 1001, 5000} {
		none = append(none, api.Message{Kind: api.MsgGetData, Hashes: hashes(n)})
	}
	for _, n := range []int{102, 103, 5000} {
		none = append(none, api.Message{Kind: api.MsgGetHeaders, Hashes: hashes(n)})
	}
	for _, m := range none {
		wantAskNot(t, fmt.Sprint(len(m.Hashes), " hashes"), s, m, api.ErrArg)
		wantFree(t, "not asked", s)
		wantReady(t, "not asked", s, true)
	}
	most := api.Message{Kind: api.MsgGetHeaders, Hashes: hashes(101)}
	wantAsk(t, "101 hashes", s, most, 5)
	wantWaits(t, "101 hashes", s, most)
}

// P20.3: the fields that its Kind does not name play no part, and are not told.
func TestAskOtherFields(t *testing.T) {
	stuffed := api.Message{Number: 1, Nonce: 2, Prev: hash(3), Stop: hash(4), Hashes: hashes(1), Headers: make([]api.Header, 500), Bytes: make([]byte, api.MaxPayload+1), Block: api.Block{Txs: make([]api.Tx, 3000)}}
	for _, named := range []api.Message{
		{Kind: api.MsgGetHeaders, Number: 1, Hashes: hashes(1), Stop: hash(4)},
		{Kind: api.MsgGetSums, Number: 1, Stop: hash(4)},
		{Kind: api.MsgGetFilter, Number: 1, Stop: hash(4)},
		{Kind: api.MsgGetData, Hashes: hashes(1)},
		{Kind: api.MsgGetHeaders},
		{Kind: api.MsgGetSums},
		{Kind: api.MsgGetFilter},
		{Kind: api.MsgGetData, Hashes: make([]api.Hash, 1)},
	} {
		m := stuffed
		m.Kind = named.Kind
		if named.Number == 0 && named.Kind != api.MsgGetData || len(named.Hashes) == 1 && named.Hashes[0] == (api.Hash{}) {
			m.Number, m.Stop, m.Hashes = 0, api.Hash{}, named.Hashes
		}
		s := ready(t)
		b, e := s.Ask(m, 1)
		if e != api.OK || !bytes.Equal(b, wire(named)) {
			t.Errorf("%d: %x, %v; not %x", m.Kind, b, e, wire(named))
		}
		wantWaits(t, "other fields", s, named)
	}
}

// P20.3: a request is late from Deadline ticks on, wherever the clock is.
func TestLate(t *testing.T) {
	for _, x := range []struct {
		since, now int
		late       bool
	}{
		{0, 0, false}, {0, 19, false}, {0, 20, true}, {0, 21, true}, {0, 1 << 40, true}, {0, math.MaxInt, true},
		{0, -1, false}, {0, -20, false}, {0, -21, false}, {0, math.MinInt, false},
		{7, 26, false}, {7, 27, true}, {7, 7, false}, {7, 6, false}, {7, -100, false},
		{-7, 12, false}, {-7, 13, true}, {-30, -11, false}, {-30, -10, true}, {-30, -31, false},
		{math.MinInt, math.MinInt, false}, {math.MinInt, math.MinInt + 19, false}, {math.MinInt, math.MinInt + 20, true},
		{math.MinInt, -1, true}, {math.MinInt, 0, true}, {math.MinInt, 1, true}, {math.MinInt, math.MaxInt, true}, {-1, math.MaxInt, true}, {-30, math.MaxInt, true},
		{math.MaxInt, math.MaxInt, false}, {math.MaxInt - 19, math.MaxInt, false}, {math.MaxInt - 20, math.MaxInt, true},
		{math.MaxInt, math.MinInt, false}, {math.MaxInt, math.MinInt + 30, false}, {math.MaxInt - 5, math.MinInt + 14, false}, {math.MaxInt, 0, false}, {1, math.MinInt, false},
	} {
		for i, request := range requests() {
			s := ready(t)
			wantAsk(t, "late", s, request, x.since)
			for range 2 {
				if s.Late(x.now) != x.late {
					t.Errorf("since %d, now %d: late %v", x.since, x.now, !x.late)
				}
			}
			wantWaits(t, "late", s, request)
			wantReady(t, "late", s, true)
			wantFeed(t, "late", s, wire(answered()[i]), answered()[i:i+1], nil)
			if s.Late(x.now) {
				t.Errorf("since %d, now %d: late, though it was answered", x.since, x.now)
			}
		}
	}
}

// P20.3: each request has a time of its own; what comes between, and what is not asked, plays no part.
func TestLateAgain(t *testing.T) {
	s := ready(t)
	for now := 0; now < 300; now += 30 {
		wantAsk(t, "again", s, requests()[0], now)
		wantFeed(t, "a ping", s, wire(ping(1)), nil, wire(pong(1)))
		wantLetGo(t, "another answer", s, wire(answered()[1]))
		wantAskNot(t, "one waits", s, requests()[1], api.ErrPeer)
		for i := range 20 {
			if s.Late(now+i) || !s.Late(now+20+i) {
				t.Errorf("since %d: %d behind", now, i)
			}
		}
		wantFeed(t, "again", s, wire(answered()[0]), answered()[:1], nil)
	}
}

// stream is bytes of all kinds of things that a peer may say rightly.
func stream() []byte {
	return slices.Concat(framed("first"), wire(verack), framed("other", 1, 2, 3), wire(version, ping(1), full()[api.MsgSums], ping(2), full()[api.MsgBlock], ping(3)), framed("zz"), wire(full()[api.MsgHeaders]))
}

// P20.2: how bytes are cut into feeds plays no part.
func TestCuts(t *testing.T) {
	b := stream()
	back := wire(verack, pong(1), pong(2), pong(3))
	for cut := range b {
		s := session.New(1)
		_, one, e := s.Feed(b[:cut])
		_, two, f := s.Feed(b[cut:])
		if got := append(one, two...); !bytes.Equal(got, back) || e != api.OK || f != api.OK || !s.Ready() {
			t.Errorf("cut at %d: %x, %v, %v", cut, got, e, f)
		}
	}
	s := session.New(1)
	var got []byte
	for i := range b {
		_, out, e := s.Feed(b[i : i+1])
		want(t, "byte by byte", e, api.OK)
		got = append(got, out...)
	}
	if !bytes.Equal(got, back) || !s.Ready() {
		t.Errorf("byte by byte: %x", got)
	}
	for i, request := range requests() {
		m := wire(ping(1), answered()[i], ping(2))
		for cut := range m {
			s := asking(t, request)
			one, _, e := s.Feed(m[:cut])
			two, _, f := s.Feed(m[cut:])
			if told := append(one, two...); text(told...) != text(answered()[i]) || e != api.OK || f != api.OK {
				t.Errorf("request %d, cut at %d: %.200s, %v, %v", i, cut, text(told...), e, f)
			}
		}
	}
}

// A session that no call made answers ErrNil and noughts, ahead of other errors.
func TestNoSession(t *testing.T) {
	var none *session.Session
	for name, s := range map[string]*session.Session{"nil": none, "plain": {}} {
		if b := s.Hello(); len(b) != 0 {
			t.Errorf("%s: Hello %x", name, b)
		}
		for _, b := range [][]byte{nil, wire(version), wire(ping(1)), {0}} {
			told, back, e := s.Feed(b)
			want(t, name, e, api.ErrNil)
			if len(told) != 0 || len(back) != 0 {
				t.Errorf("%s: %s %x", name, text(told...), back)
			}
		}
		for _, m := range append(all(), api.Message{}) {
			wantAskNot(t, name, s, m, api.ErrNil)
		}
		wantReady(t, name, s, false)
		wantFree(t, name, s)
	}
}

// A copy of its value is the same one; two are not.
func TestValueCopy(t *testing.T) {
	s, other := session.New(1), session.New(1)
	c := *s
	if len(s.Hello()) == 0 || len(c.Hello()) != 0 || len(other.Hello()) == 0 {
		t.Error("hello")
	}
	b := wire(version)
	wantLetGo(t, "a half", s, b[:30])
	wantFeed(t, "the other half", &c, b[30:], nil, wire(verack))
	wantLetGo(t, "verack", s, wire(verack))
	wantReady(t, "the copy", &c, true)
	wantReady(t, "another one", other, false)
	wantAsk(t, "the copy", &c, requests()[1], 3)
	wantWaits(t, "the session", s, requests()[1])
	wantAskNot(t, "the session", s, requests()[0], api.ErrPeer)
	wantBan(t, "the session", s, wire(version))
	wantDead(t, "the copy", &c)
	wantFeed(t, "another one", other, wire(version, verack), nil, wire(verack))
	wantFree(t, "another one", other)
}

// roomy is a list with something behind its end.
func roomy[T any](l []T, behind ...T) []T {
	return append(slices.Clone(l), behind...)[: len(l) : len(l)+len(behind)]
}

// What is handed in is neither changed, the room behind its end included, nor kept.
func TestArguments(t *testing.T) {
	s := session.New(1)
	b := stream()
	for cut := 0; cut < len(b); cut += 50 {
		piece := roomy(b[cut:min(cut+50, len(b))], 7, 8, 9)
		before := slices.Clone(whole(piece))
		_, _, e := s.Feed(piece)
		want(t, "Feed", e, api.OK)
		if !bytes.Equal(whole(piece), before) {
			t.Error("Feed changes bytes")
		}
		clear(whole(piece))
	}
	wantReady(t, "Feed", s, true)
	for i, m := range requests() {
		m.Hashes = roomy(m.Hashes, hash(50))
		before := fmt.Sprint(m, whole(m.Hashes))
		wantAsk(t, "Ask", s, m, 1)
		if fmt.Sprint(m, whole(m.Hashes)) != before {
			t.Error("Ask changes a message")
		}
		clear(whole(m.Hashes))
		wantWaits(t, "Ask", s, requests()[i])
		wantFeed(t, "Ask", s, wire(answered()[i]), answered()[i:i+1], nil)
	}
}

// spoil writes over all that a message has.
func spoil(m api.Message) {
	clear(whole(m.Hashes))
	clear(whole(m.Headers))
	clear(whole(m.Bytes))
	for _, x := range m.Block.Txs {
		for _, in := range x.In {
			clear(whole(in.Script))
			for _, w := range in.Witness {
				clear(whole(w))
			}
			clear(whole(in.Witness))
		}
		for _, out := range x.Out {
			clear(whole(out.Script))
		}
		clear(whole(x.In))
		clear(whole(x.Out))
	}
	clear(whole(m.Block.Txs))
}

// Answers are new memory, spare room included.
func TestAnswersNew(t *testing.T) {
	for i, request := range requests() {
		s := ready(t)
		hello := s.Hello()
		b, _ := s.Ask(request, 1)
		clear(whole(hello))
		clear(whole(b))
		for range 2 {
			m, _ := s.Waits()
			other, _ := s.Waits()
			spoil(m)
			if text(other) != text(request) {
				t.Errorf("request %d: two answers share memory", i)
			}
			wantWaits(t, "spoiled", s, request)
		}
		other, _ := s.Waits()
		told, back, _ := s.Feed(slices.Concat(wire(ping(1), answered()[i], ping(2)), wire(ping(3))[:20]))
		if len(told) != 1 {
			t.Fatal(text(told...))
		}
		clear(whole(back))
		if text(told...) != text(answered()[i]) {
			t.Errorf("request %d: what is told and what is sent share memory", i)
		}
		spoil(told[0])
		clear(whole(told))
		if text(other) != text(request) {
			t.Errorf("request %d: an answer is the session's memory", i)
		}
		wantFeed(t, "spoiled", s, wire(ping(3))[20:], nil, wire(pong(3)))
	}
}

// plain is a session as the chapter says it, told from all messages so far.
type plain struct {
	version, verack, wrong bool
	asked                  *api.Message
	since                  int
}

// hear takes a message, and says what is told, and what is sent.
func (p *plain) hear(m api.Message) (told, back []api.Message) {
	both := p.version && p.verack
	switch {
	case p.wrong:
	case m.Kind == api.MsgVersion:
		p.wrong = p.version
		p.version = true
		back = []api.Message{verack}
	case m.Kind == api.MsgVerack:
		p.wrong = p.verack
		p.verack = true
	case !both:
		p.wrong = true
	case m.Kind == api.MsgPing:
		back = []api.Message{pong(m.Nonce)}
	case p.asked == nil:
	case p.asked.Kind == api.MsgGetHeaders && m.Kind == api.MsgHeaders,
		p.asked.Kind == api.MsgGetSums && m.Kind == api.MsgSums && m.Stop == p.asked.Stop,
		p.asked.Kind == api.MsgGetFilter && m.Kind == api.MsgFilter && m.Stop == p.asked.Stop,
		p.asked.Kind == api.MsgGetData && m.Kind == api.MsgBlock && header.ID(m.Block.Header) == p.asked.Hashes[0],
		p.asked.Kind == api.MsgGetData && m.Kind == api.MsgNotFound && slices.Equal(m.Hashes, p.asked.Hashes):
		told = []api.Message{m}
		p.asked = nil
	}
	if p.wrong {
		return nil, nil
	}
	return told, back
}

func (p *plain) ask(m api.Message, now int) api.Errno {
	switch {
	case p.wrong:
		return api.ErrBan
	case !p.version || !p.verack || p.asked != nil:
		return api.ErrPeer
	case m.Kind != api.MsgGetHeaders && m.Kind != api.MsgGetSums && m.Kind != api.MsgGetFilter && (m.Kind != api.MsgGetData || len(m.Hashes) != 1):
		return api.ErrArg
	}
	p.asked, p.since = &m, now
	return api.OK
}

// someMessage is one of any kind, of few hashes, with the fields that its Kind names.
func someMessage(r *rand.Rand) api.Message {
	m := all()[r.Intn(13)]
	switch m.Kind {
	case api.MsgGetHeaders, api.MsgGetSums, api.MsgSums, api.MsgGetFilter, api.MsgFilter:
		m.Stop = hash(r.Intn(2))
	case api.MsgGetData, api.MsgNotFound:
		m.Hashes = []api.Hash{blockID(r.Intn(2))}
		if r.Intn(6) == 0 {
			m.Hashes = append(m.Hashes, blockID(r.Intn(2)))
		}
	case api.MsgBlock:
		m.Block = someBlock(r.Intn(2))
	case api.MsgPing:
		m.Nonce = r.Uint64()
	case api.MsgVersion, api.MsgVerack:
		if r.Intn(30) > 0 {
			return someMessage(r)
		}
	}
	return m
}

// P20.2, P20.3, P20.4: random messages, asked and heard, against a plain session.
func TestRandom(t *testing.T) {
	r := rand.New(rand.NewSource(20))
	answers, bans := 0, 0
	for range 200 {
		s, p := session.New(1), &plain{}
		now := r.Intn(100) - 50
		for i := 0; i < 80; i++ {
			now += r.Intn(12)
			if i > 1 && r.Intn(2) == 0 {
				m := someMessage(r)
				if r.Intn(3) > 0 {
					m = []api.Message{{Kind: api.MsgGetHeaders}, {Kind: api.MsgGetSums, Stop: hash(0)}, {Kind: api.MsgGetFilter, Stop: hash(1)}, {Kind: api.MsgGetData, Hashes: []api.Hash{blockID(0)}}}[r.Intn(4)]
				}
				_, e := s.Ask(m, now)
				want(t, "Ask", e, p.ask(m, now))
			} else {
				var heard, told, back []api.Message
				for range r.Intn(4) {
					heard = append(heard, someMessage(r))
				}
				if i == 0 && r.Intn(20) > 0 {
					heard = [][]api.Message{{version, verack}, {verack, version}}[r.Intn(2)]
				}
				for _, m := range heard {
					one, two := p.hear(m)
					told, back = append(told, one...), append(back, two...)
				}
				if p.wrong {
					wantBan(t, "random", s, wire(heard...))
					bans++
				} else {
					wantFeed(t, "random", s, wire(heard...), told, wire(back...))
				}
				answers += len(told)
			}
			wantReady(t, "random", s, p.version && p.verack && !p.wrong)
			if p.asked == nil {
				wantFree(t, "random", s)
				continue
			}
			wantWaits(t, "random", s, *p.asked)
			if s.Late(now) != (now-p.since >= 20) {
				t.Errorf("since %d, now %d: late %v", p.since, now, s.Late(now))
			}
		}
	}
	if answers < 300 || bans < 100 {
		t.Error("the random messages are too much alike", answers, bans)
	}
}

// What was answered, what was let go, and what waits behind a wrong are let go.
func TestLetsGo(t *testing.T) {
	const n = 200
	l := make([]*session.Session, n)
	before := heap()
	for i := range l {
		l[i] = ready(t)
		for range 3 {
			wantAsk(t, "lets go", l[i], api.Message{Kind: api.MsgGetHeaders, Hashes: hashes(101)}, 1)
			wantFeed(t, "lets go", l[i], wire(full()[api.MsgHeaders]), []api.Message{full()[api.MsgHeaders]}, nil)
		}
		wantLetGo(t, "lets go", l[i], framed("other", make([]byte, 100000)...))
		if i%2 == 0 {
			wantBan(t, "lets go", l[i], append(wire(version), framed("other", make([]byte, 100000)...)[:90000]...))
		}
	}
	if kept := int64(heap()) - int64(before); kept > n*2000 {
		t.Errorf("%d bytes are kept", kept)
	}
	runtime.KeepAlive(l)
}

func heap() uint64 {
	runtime.GC()
	var m runtime.MemStats
	runtime.ReadMemStats(&m)
	return m.HeapAlloc
}

// Much ends soon.
func TestMuch(t *testing.T) {
	begin := time.Now()
	s := ready(t)
	b := bytes.Repeat(wire(ping(1), full()[api.MsgBlock]), 20000)
	if _, back, e := s.Feed(b); e != api.OK || len(back) != 20000*32 {
		t.Error(len(back), e)
	}
	if took := time.Since(begin); took > 30*time.Second {
		t.Error(took)
	}
}
