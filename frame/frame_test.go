package frame_test

import (
	"bytes"
	"crypto/sha256"
	"encoding/binary"
	"fmt"
	"math"
	"math/rand"
	"reflect"
	"runtime"
	"slices"
	"strings"
	"testing"

	"sporran/api"
	"sporran/frame"
)

const aheadBytes = 24 // of a payload

func sample(n int) []byte {
	b := make([]byte, n)
	for i := range b {
		b[i] = byte(i*37 + i/256 + 11)
	}
	return b
}

func whole[T any](l []T) []T {
	return l[:cap(l)]
}

// head is what the chapter says that stands ahead of a payload, whatever its command, its length and its sum are.
func head(magic uint32, command string, length uint32, sum []byte) []byte {
	b := binary.LittleEndian.AppendUint32(nil, magic)
	b = append(b, command...)
	b = append(b, make([]byte, 12-len(command))...)
	b = binary.LittleEndian.AppendUint32(b, length)
	return append(b, sum...)
}

func sumOf(payload []byte) []byte {
	first := sha256.Sum256(payload)
	second := sha256.Sum256(first[:])
	return second[:4]
}

// written is what the chapter says that a frame's bytes are.
func written(f api.Frame) []byte {
	return append(head(api.Magic, f.Command, uint32(len(f.Payload)), sumOf(f.Payload)), f.Payload...)
}

func writtenAll(frames []api.Frame) []byte {
	var b []byte
	for _, f := range frames {
		b = append(b, written(f)...)
	}
	return b
}

// same holds frames against each other; nil payloads and empty ones mean the same.
func same(a, b []api.Frame) bool {
	return slices.EqualFunc(a, b, func(x, y api.Frame) bool {
		return x.Command == y.Command && bytes.Equal(x.Payload, y.Payload)
	})
}

// short is frames as a fault tells them.
func short(frames []api.Frame) string {
	var l []string
	for _, f := range frames {
		l = append(l, fmt.Sprintf("%s %d bytes", f.Command, len(f.Payload)))
	}
	return strings.Join(l, ", ")
}

func wantFeed(t *testing.T, name string, r *frame.Reader, b []byte, want []api.Frame, fault api.Errno, left int) {
	t.Helper()
	got, e := r.Feed(b)
	if !same(got, want) || e != fault || r.Left() != left {
		t.Errorf("%s: %q, %v, %d left; not %q, %v, %d left", name, short(got), e, r.Left(), short(want), fault, left)
	}
}

// wantDead asks whether a reader tells its fault again, whatever comes.
func wantDead(t *testing.T, name string, r *frame.Reader, fault api.Errno) {
	t.Helper()
	good := written(api.Frame{Command: "ping", Payload: sample(8)})
	for _, b := range [][]byte{nil, {}, {0}, good, good[:10], good[10:], sample(100), nil} {
		wantFeed(t, name+", behind the fault", r, b, nil, fault, 0)
	}
}

// frames are of all lengths of commands, and of payloads about the edges.
func frames() []api.Frame {
	return []api.Frame{
		{Command: "a"},
		{Command: "z", Payload: []byte{}},
		{Command: "verack"},
		{Command: "ping", Payload: sample(8)},
		{Command: "abcdefghijkl", Payload: sample(1)},
		{Command: "mnopqrstuvw", Payload: sample(254)},
		{Command: "xyz", Payload: sample(0x10002)},
		{Command: "zzzzzzzzzzzz", Payload: sample(300)},
	}
}

// few are frames whose bytes are few enough to cut them at each place.
func few() []api.Frame {
	return []api.Frame{{Command: "verack"}, {Command: "ping", Payload: sample(8)}, {Command: "abcdefghijkl", Payload: sample(40)}, {Command: "a"}}
}

// faulty is bytes in which nothing is whole but a fault.
type faulty struct {
	name  string
	b     []byte
	at    int // as soon as so many are there
	fault api.Errno
}

// badCommands are the twelve bytes of commands that can't be.
func badCommands() []string {
	l := []string{strings.Repeat("\x00", 12)}
	for _, good := range []string{"a", "verack", "abcdefghijk", "abcdefghijkl"} {
		field := good + strings.Repeat("\x00", 12-len(good))
		for _, at := range []int{0, len(good) / 2, len(good) - 1} {
			for _, x := range []byte{'a' - 1, 'z' + 1, 'A', 'Z', '0', '9', ' ', '.', 0x80, 'a' + 0x80, 0xff} {
				l = append(l, field[:at]+string([]byte{x})+field[at+1:])
			}
			if at < len(good)-1 { // a nought within
				l = append(l, field[:at]+"\x00"+field[at+1:])
			}
		}
		for at := len(good) + 1; at < 12; at++ { // something behind a nought
			l = append(l, field[:at]+"b"+field[at+1:], field[:at]+"\x01"+field[at+1:])
		}
	}
	return l
}

func faults() []faulty {
	var l []faulty
	good := sumOf(nil)
	for bit := range 32 {
		l = append(l, faulty{fmt.Sprint("bit ", bit, " of Magic"), head(api.Magic^1<<bit, "ping", 0, good), aheadBytes, api.ErrMagic})
	}
	backward := head(api.Magic, "ping", 0, good)
	slices.Reverse(backward[:4])
	l = append(l, faulty{"Magic the other way round", backward, aheadBytes, api.ErrMagic})
	for _, c := range badCommands() {
		l = append(l, faulty{fmt.Sprintf("command %q", c), head(api.Magic, c, 0, good), aheadBytes, api.ErrMagic})
	}
	for _, n := range []uint32{api.MaxPayload + 1, api.MaxPayload + 2, 1 << 24, math.MaxInt32, 1 << 31, math.MaxUint32} {
		l = append(l, faulty{fmt.Sprint("a payload of ", n), head(api.Magic, "ping", n, good), aheadBytes, api.ErrLong})
		l = append(l, faulty{fmt.Sprint("a payload of ", n, ", another Magic"), head(0, "ping", n, good), aheadBytes, api.ErrMagic})
		l = append(l, faulty{fmt.Sprint("a payload of ", n, ", no command"), head(api.Magic, "Ping", n, good), aheadBytes, api.ErrMagic})
	}
	for _, n := range []int{0, 1, 40} {
		for bit := range 32 {
			b := written(api.Frame{Command: "ping", Payload: sample(n)})
			b[20+bit/8] ^= 1 << (bit % 8)
			l = append(l, faulty{fmt.Sprint("bit ", bit, " of the sum of ", n), b, len(b), api.ErrSum})
		}
	}
	other := written(api.Frame{Command: "ping", Payload: sample(40)})
	other[len(other)-1] ^= 0x80
	l = append(l, faulty{"another payload", other, len(other), api.ErrSum})
	l = append(l, faulty{"another Magic and another sum", head(1, "ping", 0, sample(4)), aheadBytes, api.ErrMagic})
	l = append(l, faulty{"noughts", make([]byte, aheadBytes), aheadBytes, api.ErrMagic})
	return l
}

// P9.1: the bytes of frames.
func TestEncode(t *testing.T) {
	for _, f := range append(frames(), api.Frame{Command: "block", Payload: sample(api.MaxPayload - 1)}, api.Frame{Command: "block", Payload: sample(api.MaxPayload)}) {
		if b, e := frame.Encode(f); e != api.OK || !bytes.Equal(b, written(f)) {
			t.Errorf("%s, %d bytes: %.40x %v", f.Command, len(f.Payload), b, e)
		}
	}
}

// P9.1: bytes written by hand.
func TestEncodeByHand(t *testing.T) {
	want := "\xf9\xbe\xb4\xd9" + "verack\x00\x00\x00\x00\x00\x00" + "\x00\x00\x00\x00" + "\x5d\xf6\xe0\xe2"
	if b, e := frame.Encode(api.Frame{Command: "verack"}); e != api.OK || string(b) != want {
		t.Errorf("%x %v", b, e)
	}
	want = "\xf9\xbe\xb4\xd9" + "getcfheaders" + "\x05\x00\x00\x00" + "\x95\x95\xc9\xdf" + "hello"
	if b, e := frame.Encode(api.Frame{Command: "getcfheaders", Payload: []byte("hello")}); e != api.OK || string(b) != want {
		t.Errorf("%x %v", b, e)
	}
}

func wantNotWritten(t *testing.T, command string, payload int, want api.Errno) {
	t.Helper()
	if b, e := frame.Encode(api.Frame{Command: command, Payload: make([]byte, payload)}); e != want || len(b) != 0 {
		t.Errorf("%q, %d bytes: %d bytes, %v, not %v", command, payload, len(b), e, want)
	}
}

// P9.1: commands that can't be, ahead of payloads that are too long.
func TestEncodeNot(t *testing.T) {
	for _, n := range []int{0, 1, api.MaxPayload, api.MaxPayload + 1} {
		for _, c := range []string{"", "abcdefghijklm", strings.Repeat("a", 1000), "verack\x00", "\x00", "ver ack", "ver\x00ack", "vérack", "аб", "a\xff", "Verack", "verack2"} {
			wantNotWritten(t, c, n, api.ErrArg)
		}
	}
	for _, n := range []int{api.MaxPayload + 1, api.MaxPayload + 2, 1 << 24} {
		wantNotWritten(t, "a", n, api.ErrLong)
		wantNotWritten(t, "abcdefghijkl", n, api.ErrLong)
	}
}

// P9.1: each byte, at each end and within a command.
func TestEncodeLetters(t *testing.T) {
	for x := range 256 {
		one := string([]byte{byte(x)})
		for _, c := range []string{one, one + "bc", "a" + one + "c", "ab" + one, "abcdefghijk" + one} {
			if x < 'a' || x > 'z' {
				wantNotWritten(t, c, 3, api.ErrArg)
				continue
			}
			f := api.Frame{Command: c, Payload: sample(3)}
			if b, e := frame.Encode(f); e != api.OK || !bytes.Equal(b, written(f)) {
				t.Errorf("%q: %x %v", c, b, e)
			}
		}
	}
}

// P9.2: a new reader has nothing, and nothing comes of nothing.
func TestNothing(t *testing.T) {
	r := frame.New()
	if r.Left() != 0 {
		t.Errorf("%d left", r.Left())
	}
	wantFeed(t, "nil", r, nil, nil, api.OK, 0)
	wantFeed(t, "none", r, []byte{}, nil, api.OK, 0)
	wantFeed(t, "a frame behind", r, written(frames()[3]), frames()[3:4], api.OK, 0)
	wantFeed(t, "nil behind", r, nil, nil, api.OK, 0)
}

// P9.2: frames one by one, and all at once.
func TestWhole(t *testing.T) {
	r := frame.New()
	for i, f := range frames() {
		wantFeed(t, f.Command, r, written(f), frames()[i:i+1], api.OK, 0)
	}
	wantFeed(t, "all", r, writtenAll(frames()), frames(), api.OK, 0)
	wantFeed(t, "all, and the next one's beginning", r, append(writtenAll(frames()), sample(23)...), frames(), api.OK, 23)
	many := slices.Repeat(few(), 2000)
	wantFeed(t, "many", frame.New(), writtenAll(many), many, api.OK, 0)
}

// P9.2: byte by byte, a frame is told with its last one.
func TestByteByByte(t *testing.T) {
	r := frame.New()
	for i, f := range few() {
		b := written(f)
		for at := range b[1:] {
			wantFeed(t, fmt.Sprint(f.Command, " at ", at), r, b[at:at+1], nil, api.OK, at+1)
		}
		wantFeed(t, f.Command+" at its end", r, b[len(b)-1:], few()[i:i+1], api.OK, 0)
	}
}

// P9.2, P9.3: the longest payload byte by byte, which would take for ever if each byte moved all ahead of it.
func TestLongestByteByByte(t *testing.T) {
	f := api.Frame{Command: "block", Payload: sample(api.MaxPayload)}
	r := frame.New()
	b := written(f)
	for at := range b[1:] {
		if l, e := r.Feed(b[at : at+1]); len(l) != 0 || e != api.OK || r.Left() != at+1 {
			t.Fatalf("at %d: %q %v, %d left", at, short(l), e, r.Left())
		}
	}
	wantFeed(t, "at its end", r, b[len(b)-1:], []api.Frame{f}, api.OK, 0)
}

// P9.2, P9.3: frames in two parts, cut at each place.
func TestCutTwice(t *testing.T) {
	all := writtenAll(few())
	for cut := range len(all) + 1 {
		var ahead []api.Frame
		n := 0
		for _, f := range few() {
			if n+len(written(f)) > cut {
				break
			}
			n += len(written(f))
			ahead = append(ahead, f)
		}
		r := frame.New()
		wantFeed(t, fmt.Sprint("up to ", cut), r, all[:cut], ahead, api.OK, cut-n)
		wantFeed(t, fmt.Sprint("nothing at ", cut), r, nil, nil, api.OK, cut-n)
		wantFeed(t, fmt.Sprint("from ", cut), r, all[cut:], few()[len(ahead):], api.OK, 0)
	}
}

// P9.2: a payload of just MaxPayload is waited for, and told.
func TestLongest(t *testing.T) {
	f := api.Frame{Command: "block", Payload: sample(api.MaxPayload)}
	b := written(f)
	r := frame.New()
	wantFeed(t, "24 bytes", r, b[:aheadBytes], nil, api.OK, aheadBytes)
	wantFeed(t, "all but one", r, b[aheadBytes:len(b)-1], nil, api.OK, len(b)-1)
	wantFeed(t, "all", r, b[len(b)-1:], []api.Frame{f}, api.OK, 0)
	b[len(b)-1] ^= 1
	wantFeed(t, "another one but for one byte", r, b[:len(b)-1], nil, api.OK, len(b)-1)
	wantFeed(t, "another one", r, b[len(b)-1:], nil, api.ErrSum, 0)
}

// P9.2: each fault, alone in a feed, behind frames, with bytes behind; it is told again for ever.
func TestFaults(t *testing.T) {
	for _, x := range faults() {
		r := frame.New()
		wantFeed(t, x.name, r, x.b, nil, x.fault, 0)
		wantDead(t, x.name, r, x.fault)
		for n := range few() {
			r := frame.New()
			wantFeed(t, fmt.Sprint(x.name, " behind ", n), r, append(writtenAll(few()[:n]), x.b...), few()[:n], x.fault, 0)
			wantDead(t, x.name, r, x.fault)
		}
		r = frame.New()
		wantFeed(t, x.name+", frames on both sides", r, slices.Concat(writtenAll(few()), x.b, writtenAll(few())), few(), x.fault, 0)
		wantDead(t, x.name, r, x.fault)
	}
}

// P9.2: as soon as what tells a fault is there, and not before.
func TestFaultsSoon(t *testing.T) {
	ahead := writtenAll(few())
	for _, x := range faults() {
		r := frame.New()
		wantFeed(t, x.name+", all but one", r, append(bytes.Clone(ahead), x.b[:x.at-1]...), few(), api.OK, x.at-1)
		wantFeed(t, x.name+", nothing", r, nil, nil, api.OK, x.at-1)
		wantFeed(t, x.name+", the one", r, x.b[x.at-1:x.at], nil, x.fault, 0)
		wantDead(t, x.name, r, x.fault)
	}
	for _, x := range faults()[:40] {
		r := frame.New()
		for at := range x.at - 1 {
			wantFeed(t, fmt.Sprint(x.name, " at ", at), r, x.b[at:at+1], nil, api.OK, at+1)
		}
		wantFeed(t, x.name, r, x.b[x.at-1:x.at], nil, x.fault, 0)
	}
}

// P9.2: of two faults, one behind the other, the first one is told.
func TestFirstFault(t *testing.T) {
	l := faults()
	for i, x := range l {
		y := l[(i*7+50)%len(l)]
		r := frame.New()
		wantFeed(t, x.name+", then "+y.name, r, slices.Concat(writtenAll(few()[:1]), x.b, y.b), few()[:1], x.fault, 0)
		wantDead(t, x.name, r, x.fault)
	}
}

// told is what the chapter says of bytes: their frames, the fault of what stands behind, and how many wait.
func told(b []byte) (frames []api.Frame, fault api.Errno, left int) {
	for len(b) >= aheadBytes {
		command := strings.TrimRight(string(b[4:16]), "\x00")
		bad := command == "" || strings.Trim(command, "abcdefghijklmnopqrstuvwxyz") != ""
		n := binary.LittleEndian.Uint32(b[16:])
		switch {
		case binary.LittleEndian.Uint32(b) != api.Magic || bad:
			return frames, api.ErrMagic, 0
		case n > api.MaxPayload:
			return frames, api.ErrLong, 0
		case uint64(len(b)) < aheadBytes+uint64(n):
			return frames, api.OK, len(b)
		}
		payload := b[aheadBytes : aheadBytes+n]
		if !bytes.Equal(b[20:24], sumOf(payload)) {
			return frames, api.ErrSum, 0
		}
		frames = append(frames, api.Frame{Command: command, Payload: payload})
		b = b[aheadBytes+n:]
	}
	return frames, api.OK, len(b)
}

// stream is some frames, in which a byte may be another one.
func stream(r *rand.Rand) []byte {
	var b []byte
	for range r.Intn(8) {
		command := strings.Repeat(string(rune('a'+r.Intn(26))), 1+r.Intn(12))
		b = append(b, written(api.Frame{Command: command, Payload: sample(r.Intn(60) * r.Intn(2))})...)
	}
	if len(b) > 0 && r.Intn(2) == 0 {
		b[r.Intn(len(b))] ^= 1 << r.Intn(8)
	}
	if r.Intn(3) == 0 {
		b = append(b, sample(r.Intn(40))...)
	}
	return b
}

// P9.3: bytes of any kind, cut anyhow: behind each feed all is told that the bytes so far tell.
func TestCutAnyhow(t *testing.T) {
	r := rand.New(rand.NewSource(1))
	count := map[api.Errno]int{}
	for range 5000 {
		all := stream(r)
		x := frame.New()
		var got []api.Frame
		for at := 0; at <= len(all); {
			end := at + r.Intn(min(len(all)-at, 90)+1)
			l, e := x.Feed(all[at:end])
			got = append(got, l...)
			want, fault, left := told(all[:end])
			if !same(got, want) || e != fault || x.Left() != left {
				t.Fatalf("%x up to %d: %q %v, %d left; not %q %v, %d left", all, end, short(got), e, x.Left(), short(want), fault, left)
			}
			if at = end; at == len(all) {
				count[e]++
				break
			}
		}
	}
	for _, e := range []api.Errno{api.OK, api.ErrMagic, api.ErrLong, api.ErrSum} {
		if count[e] < 20 {
			t.Errorf("only %d ended with %v", count[e], e)
		}
	}
}

// P9.4: there and back.
func TestBack(t *testing.T) {
	r := frame.New()
	for _, f := range append(frames(), api.Frame{Command: "block", Payload: sample(api.MaxPayload)}) {
		b, e := frame.Encode(f)
		if e != api.OK {
			t.Fatal(e)
		}
		wantFeed(t, f.Command, r, b, []api.Frame{f}, api.OK, 0)
		l, _ := frame.New().Feed(b)
		if len(l) != 1 {
			t.Fatal(len(l))
		}
		if again, e := frame.Encode(l[0]); e != api.OK || !bytes.Equal(again, b) {
			t.Errorf("%s: %.40x %v", f.Command, again, e)
		}
	}
}

func TestNoReader(t *testing.T) {
	var none *frame.Reader
	for name, r := range map[string]*frame.Reader{"nil": none, "plain": {}} {
		for _, b := range [][]byte{nil, {}, {1}, written(few()[1]), sample(100)} {
			wantFeed(t, name, r, b, nil, api.ErrNil, 0)
		}
	}
}

// Readers know nothing of each other.
func TestTwoReaders(t *testing.T) {
	a, b := frame.New(), frame.New()
	first := written(few()[1])
	wantFeed(t, "the one's first part", a, first[:30], nil, api.OK, 30)
	wantFeed(t, "the other's fault", b, sample(30), nil, api.ErrMagic, 0)
	wantFeed(t, "the one's second part", a, first[30:], few()[1:2], api.OK, 0)
	wantDead(t, "the other", b, api.ErrMagic)
}

// A copy of a reader is that reader still: what waits for the one waits for the other, and neither spoils it.
func TestCopy(t *testing.T) {
	r := frame.New()
	b := written(few()[2])
	wantFeed(t, "the first part", r, b[:30], nil, api.OK, 30)
	c := *r
	wantFeed(t, "the second part", &c, b[30:40], nil, api.OK, 40)
	wantFeed(t, "the third part", r, b[40:], few()[2:3], api.OK, 0)
	wantFeed(t, "a fault", &c, sample(24), nil, api.ErrMagic, 0)
	wantDead(t, "the reader", r, api.ErrMagic)
}

// What is handed in is not changed, the room behind its end included, and not kept.
func TestArguments(t *testing.T) {
	all := writtenAll(few())
	for cut := range len(all) + 1 {
		room := slices.Concat(all[:cut], sample(80))
		before := bytes.Clone(room)
		r := frame.New()
		ahead, e := r.Feed(room[:cut])
		if e != api.OK || !bytes.Equal(room, before) {
			t.Fatalf("%d bytes were changed, %v", cut, e)
		}
		clear(room)
		behind, e := r.Feed(all[cut:])
		if e != api.OK || !same(slices.Concat(ahead, behind), few()) {
			t.Fatalf("%d bytes that were changed later: %v", cut, e)
		}
	}
	for _, f := range frames() {
		f.Payload = slices.Concat(f.Payload, sample(9))[:len(f.Payload)]
		before := bytes.Clone(whole(f.Payload))
		b, _ := frame.Encode(f)
		if !bytes.Equal(whole(f.Payload), before) {
			t.Errorf("%s: the payload was changed", f.Command)
		}
		want := bytes.Clone(b)
		clear(whole(f.Payload))
		if !bytes.Equal(b, want) {
			t.Errorf("%s: the bytes are a piece of the payload", f.Command)
		}
	}
}

// What a feed answers, spare room included, is no other answer's and not the reader's.
func TestAnswersNew(t *testing.T) {
	all := writtenAll(few())
	for cut := range len(all) + 1 {
		r := frame.New()
		arg := slices.Concat(writtenAll(few()), all[:cut])
		ahead, e := r.Feed(arg)
		spoil(ahead)
		if e != api.OK || !bytes.Equal(arg, slices.Concat(writtenAll(few()), all[:cut])) {
			t.Fatalf("cut at %d: the frames are a piece of what came in, %v", cut, e)
		}
		behind, e := r.Feed(all[cut:])
		if want := few()[len(ahead)-len(few()):]; e != api.OK || !same(behind, want) {
			t.Fatalf("cut at %d: what waits is a piece of the frames, %v", cut, e)
		}
	}
}

// spoil writes over all that frames have.
func spoil(l []api.Frame) {
	for i, f := range l {
		b := whole(f.Payload)
		for j := range b {
			b[j] = 0x55
		}
		l[i].Command = "spoilt"
	}
	clear(l[len(l):cap(l)])
}

// Each list of an answer has memory of its own, and so has each answer.
func TestListsApart(t *testing.T) {
	r := frame.New()
	var l []api.Frame
	for range 3 {
		got, e := r.Feed(append(writtenAll(few()), written(frames()[5])...))
		if e != api.OK {
			t.Fatal(e)
		}
		l = append(l, got...)
	}
	for i := range l {
		before := make([]api.Frame, len(l))
		for j, f := range l {
			before[j] = api.Frame{Command: f.Command, Payload: bytes.Clone(f.Payload)}
		}
		b := whole(l[i].Payload)
		for j := range b {
			b[j] ^= 0xff
		}
		for j, f := range l {
			if j != i && !bytes.Equal(f.Payload, before[j].Payload) {
				t.Errorf("payload %d is in payload %d", j, i)
			}
		}
	}
}

func TestListsOfTwoFeeds(t *testing.T) {
	r := frame.New()
	first, _ := r.Feed(writtenAll(few()))
	want := slices.Clone(first)
	second, _ := r.Feed(writtenAll(few()))
	clear(whole(second))
	if !reflect.DeepEqual(first, want) {
		t.Error("a later list is in an earlier one")
	}
	a, _ := frame.Encode(few()[1])
	b, _ := frame.Encode(few()[1])
	clear(whole(a))
	if !bytes.Equal(b, written(few()[1])) {
		t.Error("a frame's bytes are in another's")
	}
}

// What was told is let go, though a byte of the next frame waits behind it.
func TestLetsGo(t *testing.T) {
	b := append(written(api.Frame{Command: "block", Payload: sample(api.MaxPayload)}), 0)
	readers := make([]*frame.Reader, 200)
	before := heap()
	for i := range readers {
		readers[i] = frame.New()
		if l, e := readers[i].Feed(b); len(l) != 1 || e != api.OK || readers[i].Left() != 1 {
			t.Fatal(len(l), e, readers[i].Left())
		}
	}
	if kept := int64(heap()) - int64(before); kept > int64(len(readers)*len(b)/10) {
		t.Errorf("%d bytes are kept", kept)
	}
	runtime.KeepAlive(readers)
}

func heap() uint64 {
	runtime.GC()
	var m runtime.MemStats
	runtime.ReadMemStats(&m)
	return m.HeapAlloc
}
