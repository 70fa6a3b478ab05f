package journal_test

import (
	"bytes"
	"crypto/sha256"
	"encoding/binary"
	"fmt"
	"maps"
	"math/rand"
	"runtime"
	"slices"
	"strings"
	"testing"

	"sporran/api"
	"sporran/journal"
	"sporran/tape"
)

const (
	aheadBytes = 12 // of a frame's batch
	mostBytes  = 1 << 20
)

func sample(n int) []byte {
	b := make([]byte, n)
	for i := range b {
		b[i] = byte(i*37 + i/256 + 11)
	}
	return b
}

func whole[T any](l []T) []T {
	return l[:cap(l)]
}

// count is what chapter 5 says that a count's bytes are.
func count(n int) []byte {
	switch {
	case n < 0xfd:
		return []byte{byte(n)}
	case n <= 0xffff:
		return binary.LittleEndian.AppendUint16([]byte{0xfd}, uint16(n))
	}
	return binary.LittleEndian.AppendUint32([]byte{0xfe}, uint32(n))
}

func text[T string | []byte](b T) []byte {
	return append(count(len(b)), b...)
}

// written is what the chapter says that a batch's bytes are, also of one that can't be.
func written(b api.Batch) []byte {
	all := count(len(b.Puts))
	for _, p := range b.Puts {
		all = append(append(all, text(p.Key)...), text(p.Value)...)
	}
	all = append(all, count(len(b.Deletes))...)
	for _, key := range b.Deletes {
		all = append(all, text(key)...)
	}
	return all
}

// framed is what the chapter says that a frame of bytes is, whatever they are.
func framed(batch []byte) []byte {
	first := sha256.Sum256(batch)
	second := sha256.Sum256(first[:])
	b := binary.LittleEndian.AppendUint32(nil, uint32(len(batch)))
	return append(append(b, second[:8]...), batch...)
}

func framesOf(batches ...api.Batch) []byte {
	var b []byte
	for _, x := range batches {
		b = append(b, framed(written(x))...)
	}
	return b
}

// done is what the chapter says that batches do.
func done(batches ...api.Batch) map[string]string {
	all := map[string]string{}
	for _, b := range batches {
		for _, p := range b.Puts {
			all[p.Key] = string(p.Value)
		}
		for _, key := range b.Deletes {
			delete(all, key)
		}
	}
	return all
}

func put(pairs ...string) api.Batch {
	var b api.Batch
	for i := 0; i < len(pairs); i += 2 {
		b.Puts = append(b.Puts, api.Pair{Key: pairs[i], Value: []byte(pairs[i+1])})
	}
	return b
}

func drop(keys ...string) api.Batch {
	return api.Batch{Deletes: keys}
}

func both(puts, deletes api.Batch) api.Batch {
	return api.Batch{Puts: puts.Puts, Deletes: deletes.Deletes}
}

// few are batches that put, put again, delete, and do nothing.
func few() []api.Batch {
	return []api.Batch{
		put("a", "1"),
		put("b", "", "a", "2", "c\x00", "3"),
		{},
		both(put("d", "4", "\xff", "5"), drop("a", "nothing")),
		both(put("b", "6"), drop("b")),
		put("e", "7", "e", "8", strings.Repeat("k", 100), string(sample(300))),
	}
}

func tapeOf(t *testing.T, b []byte) *tape.Tape {
	t.Helper()
	x, e := tape.Of(b, api.MaxTape)
	if e != api.OK {
		t.Fatal(e)
	}
	return x
}

func open(t *testing.T, x *tape.Tape) *journal.Journal {
	t.Helper()
	j, e := journal.Open(x)
	if e != api.OK || j == nil {
		t.Fatal(j, e)
	}
	return j
}

// fresh is a journal on a tape without bytes.
func fresh(t *testing.T) (*tape.Tape, *journal.Journal) {
	t.Helper()
	x := tapeOf(t, nil)
	return x, open(t, x)
}

func commit(t *testing.T, j *journal.Journal, batches ...api.Batch) {
	t.Helper()
	for i, b := range batches {
		if e := j.Commit(b); e != api.OK {
			t.Fatal(i, e)
		}
	}
}

func want(t *testing.T, name string, got, want api.Errno) {
	t.Helper()
	if got != want {
		t.Errorf("%s: %v, not %v", name, got, want)
	}
}

func wantBytes(t *testing.T, name string, x *tape.Tape, all []byte) {
	t.Helper()
	if b := x.Bytes(); !bytes.Equal(b, all) {
		t.Errorf("%s: the tape has %d bytes, %.60x; not %d, %.60x", name, len(b), b, len(all), all)
	}
}

// state is all that a journal tells of its keys.
func state(j *journal.Journal) map[string]string {
	all := map[string]string{}
	for _, key := range j.Keys("") {
		value, ok := j.Get(key)
		if !ok {
			value = []byte("not there")
		}
		all[key] = string(value)
	}
	return all
}

func wantState(t *testing.T, name string, j *journal.Journal, all map[string]string, batches int) {
	t.Helper()
	if got := state(j); !maps.Equal(got, all) || j.Batches() != batches {
		t.Errorf("%s: %d batches, %.500s; not %d, %.500s", name, j.Batches(), fmt.Sprintf("%.60q", got), batches, fmt.Sprintf("%.60q", all))
	}
}

// wantDone asks whether a journal has just what these batches did.
func wantDone(t *testing.T, name string, j *journal.Journal, batches ...api.Batch) {
	t.Helper()
	wantState(t, name, j, done(batches...), len(batches))
}

// The chapter's example.
func TestExample(t *testing.T) {
	x, j := fresh(t)
	want(t, "Commit", j.Commit(put("a", "1")), api.OK)
	sum := framed([]byte{1, 1, 0x61, 1, 0x31, 0})[4:12]
	wantBytes(t, "its frame", x, append(append([]byte{6, 0, 0, 0}, sum...), 1, 1, 0x61, 1, 0x31, 0))
}

// P16.2: bytes written by hand.
func TestFrameByHand(t *testing.T) {
	x, j := fresh(t)
	want(t, "Commit", j.Commit(api.Batch{}), api.OK)
	wantBytes(t, "nothing", x, []byte("\x02\x00\x00\x00"+"\x40\x7f\xeb\x4a\x4b\x83\x03\xba"+"\x00\x00"))
	x, j = fresh(t)
	b := api.Batch{Puts: []api.Pair{{Key: "k"}, {Key: "é", Value: []byte{0, 0xff}}}, Deletes: []string{"x", "yz"}}
	want(t, "Commit", j.Commit(b), api.OK)
	wantBytes(t, "more", x, framed([]byte("\x02\x01k\x00\x02\xc3\xa9\x02\x00\xff\x02\x01x\x02yz")))
}

// P16.1: a tape without bytes.
func TestOpenNothing(t *testing.T) {
	for _, room := range []int{0, 1, api.MaxTape} {
		x, _ := tape.New(room)
		j := open(t, x)
		wantDone(t, "nothing", j)
		if b, ok := j.Get("a"); b != nil || ok || j.Halted() {
			t.Errorf("%x %v %v", b, ok, j.Halted())
		}
		wantBytes(t, "nothing", x, nil)
	}
}

// P16.1, P16.2: batches are on the tape, synced, frame behind frame, and Open does what they do.
func TestCommit(t *testing.T) {
	x, j := fresh(t)
	for i, b := range few() {
		want(t, "Commit", j.Commit(b), api.OK)
		all := few()[:i+1]
		wantDone(t, fmt.Sprint("behind ", i), j, all...)
		wantBytes(t, fmt.Sprint("behind ", i), x, framesOf(all...))
		if x.Synced() != len(framesOf(all...)) || j.Halted() {
			t.Errorf("behind %d: %d synced, halted %v", i, x.Synced(), j.Halted())
		}
		again := open(t, x)
		wantDone(t, fmt.Sprint("again behind ", i), again, all...)
		wantBytes(t, fmt.Sprint("again behind ", i), x, framesOf(all...))
	}
}

// P16.2: puts in order, then deletes.
func TestOrder(t *testing.T) {
	for _, c := range []struct {
		name string
		b    api.Batch
		want map[string]string
	}{
		{"of two the last", put("a", "1", "a", "2"), map[string]string{"a": "2", "z": "0"}},
		{"of three the last", put("a", "3", "b", "x", "a", "2", "a", "1"), map[string]string{"a": "1", "b": "x", "z": "0"}},
		{"put and deleted", both(put("a", "1"), drop("a")), map[string]string{"z": "0"}},
		{"put twice and deleted", both(put("a", "1", "b", "2", "a", "3"), drop("a")), map[string]string{"b": "2", "z": "0"}},
		{"deleted twice", drop("z", "z"), map[string]string{}},
		{"put anew and deleted", both(put("z", "1"), drop("z")), map[string]string{}},
		{"deleted, though not there", drop("a"), map[string]string{"z": "0"}},
		{"put anew", put("z", ""), map[string]string{"z": ""}},
	} {
		x, j := fresh(t)
		commit(t, j, put("z", "0"), c.b)
		wantState(t, c.name, j, c.want, 2)
		wantState(t, c.name+", again", open(t, x), c.want, 2)
	}
}

// pairs are n puts of keys of three bytes.
func pairs(n int) api.Batch {
	var b api.Batch
	for i := range n {
		b.Puts = append(b.Puts, api.Pair{Key: fmt.Sprintf("%03x", i%4096)})
	}
	return b
}

func keys(n int) api.Batch {
	var b api.Batch
	for i := range n {
		b.Deletes = append(b.Deletes, fmt.Sprintf("%03x", i%4096))
	}
	return b
}

// sized is a batch of just so many bytes, from some 19 times MaxValue on.
func sized(n int) api.Batch {
	var b api.Batch
	for range 17 {
		b.Puts = append(b.Puts, api.Pair{Key: "key", Value: sample(api.MaxValue)})
	}
	b.Puts = append(b.Puts, api.Pair{Key: "last", Value: sample(1000)})
	rest := n - len(written(b))
	b.Puts[17].Value = sample(1000 + rest)
	return b
}

// possible are batches at the limits' edges.
func possible() map[string]api.Batch {
	long := strings.Repeat("k", 100)
	return map[string]api.Batch{
		"nothing":                    {},
		"lists without parts":        {Puts: []api.Pair{}, Deletes: []string{}},
		"a key of one byte":          put("\x00", "1"),
		"a key of 99":                put(long[1:], "1"),
		"a key of 100":               put(long, "1"),
		"a key of 100 is deleted":    drop(long),
		"no value":                   {Puts: []api.Pair{{Key: "a"}}},
		"a value of 252":             put("a", string(sample(252))),
		"a value of 253":             put("a", string(sample(253))),
		"MaxValue":                   put("a", string(sample(api.MaxValue))),
		"MaxCount puts":              pairs(api.MaxCount),
		"MaxCount deletes":           keys(api.MaxCount),
		"MaxCount of both":           both(pairs(api.MaxCount), keys(api.MaxCount)),
		"252 of both":                both(pairs(252), keys(252)),
		"253 of both":                both(pairs(253), keys(253)),
		"2^20 bytes":                 sized(mostBytes),
		"2^20 - 1 bytes":             sized(mostBytes - 1),
		"2^20 bytes, and deletes":    both(sized(mostBytes-6), drop("a", "bcd")),
		"2^20 bytes of many puts":    exact(api.MaxCount),
		"2^20 bytes of many deletes": exactKeys(api.MaxCount),
	}
}

// exact is a batch of n puts with 2^20 bytes.
func exact(n int) api.Batch {
	b := pairs(n)
	each := (mostBytes-8)/n - 5
	for i := range b.Puts {
		b.Puts[i].Value = sample(each)
	}
	b.Puts[0].Value = sample(each + mostBytes - len(written(b)) - 2) // its own count has two bytes more then
	return b
}

// exactKeys is a batch of n deletes with 2^20 bytes.
func exactKeys(n int) api.Batch {
	b := keys(n)
	rest := mostBytes - len(written(b))
	for i := 0; rest > 0; i++ {
		more := min(rest, 90)
		b.Deletes[i] += strings.Repeat("x", more)
		rest -= more
	}
	return b
}

// impossible are batches beyond the limits' edges.
func impossible() map[string]api.Batch {
	long := strings.Repeat("k", 101)
	return map[string]api.Batch{
		"no key":                   put("", "1"),
		"no key behind one":        put("a", "1", "", "2"),
		"no key is deleted":        drop(""),
		"no key is deleted behind": drop("a", ""),
		"a key of 101":             put(long, "1"),
		"a key of 101 behind":      put("a", "1", long, "1"),
		"a key of 101 is deleted":  drop(long),
		"a key of 101, behind":     both(put("a", "1"), drop("a", long)),
		"a long key":               put(string(sample(70000)), ""),
		"above MaxValue":           put("a", string(sample(api.MaxValue+1))),
		"above MaxValue behind":    put("a", "1", "b", string(sample(api.MaxValue+1))),
		"far above MaxValue":       put("a", string(sample(mostBytes))),
		"above MaxCount puts":      pairs(api.MaxCount + 1),
		"above MaxCount deletes":   keys(api.MaxCount + 1),
		"above both":               both(pairs(api.MaxCount+1), keys(api.MaxCount+1)),
		"twice MaxCount":           pairs(2 * api.MaxCount),
		"2^20 + 1 bytes":           sized(mostBytes + 1),
		"2^20 bytes, and a delete": both(sized(mostBytes), drop("a")),
		"2^20 + 1 bytes with it":   both(sized(mostBytes-1), drop("a")),
		"too many bytes in puts":   plusOne(exact(api.MaxCount)),
		"too many in deletes":      both(pairs(0), drop(append(exactKeys(api.MaxCount-1).Deletes, "a")...)),
	}
}

// enormous are batches beyond the limits, which no tape has room for.
func enormous() map[string]api.Batch {
	return map[string]api.Batch{
		"1.2 * 10^9 bytes":     {Puts: slices.Repeat(put("a", string(sample(api.MaxValue))).Puts, api.MaxCount)},
		"2^20 empty parts":     {Puts: make([]api.Pair, 1<<20), Deletes: make([]string, 1<<20)},
		"a value of 2^26":      put("a", string(make([]byte, 1<<26))),
		"a key of 2^26":        put(string(make([]byte, 1<<26)), "a"),
		"2^26 to delete":       drop(string(make([]byte, 1<<26))),
		"2 * 10^6 bytes":       {Deletes: slices.Repeat([]string{strings.Repeat("k", 100)}, api.MaxCount)},
		"MaxCount puts of all": {Puts: slices.Repeat(put(strings.Repeat("k", 100), string(sample(api.MaxValue))).Puts, api.MaxCount)},
	}
}

// plusOne has one byte more in its last value.
func plusOne(b api.Batch) api.Batch {
	p := &b.Puts[len(b.Puts)-1]
	p.Value = append(p.Value, 1)
	return b
}

// The samples have just as many bytes as their names say.
func TestSamples(t *testing.T) {
	for name, n := range map[string]int{"2^20 bytes": mostBytes, "2^20 - 1 bytes": mostBytes - 1, "2^20 bytes, and deletes": mostBytes, "2^20 bytes of many puts": mostBytes, "2^20 bytes of many deletes": mostBytes} {
		if got := len(written(possible()[name])); got != n {
			t.Errorf("%s: %d", name, got)
		}
	}
	for name, n := range map[string]int{"2^20 + 1 bytes": mostBytes + 1, "2^20 + 1 bytes with it": mostBytes + 1, "too many bytes in puts": mostBytes + 1, "too many in deletes": mostBytes + 2} {
		if got := len(written(impossible()[name])); got != n {
			t.Errorf("%s: %d", name, got)
		}
	}
}

// P16.1, P16.2: each limit is itself allowed, there and back.
func TestPossible(t *testing.T) {
	for name, b := range possible() {
		x, j := fresh(t)
		want(t, name, j.Commit(b), api.OK)
		wantBytes(t, name, x, framesOf(b))
		wantDone(t, name, j, b)
		wantDone(t, name+", again", open(t, x), b)
		wantDone(t, name+", by hand", open(t, tapeOf(t, framesOf(b))), b)
	}
}

// P16.2: batches that can't be change nothing, halted or not.
func TestImpossible(t *testing.T) {
	x, j := fresh(t)
	commit(t, j, few()...)
	x.Fuse(2)
	all := impossible()
	maps.Copy(all, enormous())
	for name, b := range all {
		want(t, name, j.Commit(b), api.ErrArg)
		wantDone(t, name, j, few()...)
		wantBytes(t, name, x, framesOf(few()...))
		if j.Halted() {
			t.Errorf("%s: halted", name)
		}
	}
	want(t, "none took from the fuse", j.Commit(put("z", "9")), api.OK)
	those := append(few(), put("z", "9"))
	want(t, "the fuse", j.Commit(put("z", "9")), api.ErrDead)
	want(t, "halted", j.Commit(put("z", "9")), api.ErrHalt)
	for name, b := range all {
		want(t, name+", halted", j.Commit(b), api.ErrArg)
		wantDone(t, name+", halted", j, those...)
		wantBytes(t, name+", halted", x, framesOf(those...))
	}
}

// wantHalted asks whether a journal has halted for good, and has what these batches did.
func wantHalted(t *testing.T, name string, x *tape.Tape, j *journal.Journal, batches ...api.Batch) {
	t.Helper()
	x.Fuse(100)
	x.Room(api.MaxTape)
	all := x.Bytes()
	for _, b := range append(few(), drop("a")) {
		if !j.Halted() {
			t.Errorf("%s: not halted", name)
		}
		want(t, name, j.Commit(b), api.ErrHalt)
		wantDone(t, name, j, batches...)
		wantBytes(t, name, x, all)
	}
}

// P16.2: a tape without room.
func TestHaltFull(t *testing.T) {
	more := framesOf(put("z", "9"))
	for lack := 1; lack <= len(more); lack++ {
		x, j := fresh(t)
		commit(t, j, few()...)
		ahead := x.Bytes()
		x.Room(len(ahead) + len(more) - lack)
		want(t, "Commit", j.Commit(put("z", "9")), api.ErrFull)
		wantBytes(t, "full", x, ahead)
		wantHalted(t, fmt.Sprint("full, lacking ", lack), x, j, few()...)
		wantDone(t, "opened again", open(t, x), few()...)
	}
	x, j := fresh(t)
	commit(t, j, few()...)
	x.Room(len(x.Bytes()) + len(more))
	want(t, "Commit with just enough room", j.Commit(put("z", "9")), api.OK)
	want(t, "nothing more", j.Commit(api.Batch{}), api.ErrFull)
	wantHalted(t, "full", x, j, append(few(), put("z", "9"))...)
}

// P16.2: a tape that stops ahead of a frame, or ahead of its sync.
func TestHaltDead(t *testing.T) {
	for n := range 2 * len(few()) {
		x, j := fresh(t)
		x.Fuse(n)
		for i := range n / 2 {
			want(t, "Commit", j.Commit(few()[i]), api.OK)
		}
		next := few()[n/2]
		want(t, fmt.Sprint("Commit at a fuse of ", n), j.Commit(next), api.ErrDead)
		all := framesOf(few()[:n/2+n%2]...) // an odd one lets the frame through, but not its sync
		wantBytes(t, fmt.Sprint("behind a fuse of ", n), x, all)
		if synced := len(framesOf(few()[:n/2]...)); x.Synced() != synced {
			t.Errorf("a fuse of %d: %d synced, not %d", n, x.Synced(), synced)
		}
		wantHalted(t, fmt.Sprint("a fuse of ", n), x, j, few()[:n/2]...)
	}
}

// P16.2: a batch takes one Append and one Sync, and Open of whole frames nothing.
func TestFuseOfCalls(t *testing.T) {
	x := tapeOf(t, framesOf(few()...))
	x.Fuse(2)
	j := open(t, x)
	want(t, "the one", j.Commit(put("z", "9")), api.OK)
	j.Get("z")
	j.Keys("")
	want(t, "the next", j.Commit(put("z", "9")), api.ErrDead)
	wantDone(t, "behind it", j, append(few(), put("z", "9"))...)
}

// wantCut opens bytes of which only these batches' frames are some.
func wantCut(t *testing.T, name string, b []byte, batches ...api.Batch) {
	t.Helper()
	x := tapeOf(t, b)
	wantDone(t, name, open(t, x), batches...)
	wantBytes(t, name, x, framesOf(batches...))
	wantDone(t, name+", twice", open(t, x), batches...)
	wantBytes(t, name+", twice", x, framesOf(batches...))
}

// P16.1: a tape that ends anywhere.
func TestTorn(t *testing.T) {
	all := framesOf(few()...)
	for cut := range len(all) + 1 {
		n := 0
		for n < len(few()) && len(framesOf(few()[:n+1]...)) <= cut {
			n++
		}
		wantCut(t, fmt.Sprint("cut at ", cut), all[:cut], few()[:n]...)
	}
}

// P16.1: a tape of which any one bit is another.
func TestOtherBit(t *testing.T) {
	l := few()[:5]
	all := framesOf(l...)
	for at := range all {
		n := 0
		for len(framesOf(l[:n+1]...)) <= at {
			n++
		}
		for bit := range 8 {
			b := bytes.Clone(all)
			b[at] ^= 1 << bit
			wantCut(t, fmt.Sprint("bit ", bit, " at ", at), b, l[:n]...)
		}
	}
}

// strange are bytes that no batch has, though they nearly are one's.
func strange() map[string][]byte {
	good := written(put("a", "1"))
	l := map[string][]byte{
		"nothing":                   {},
		"one nought":                {0},
		"three noughts":             {0, 0, 0},
		"a byte behind":             append(bytes.Clone(good), 0),
		"a text behind":             append(bytes.Clone(good), text("b")...),
		"one byte less":             good[:len(good)-1],
		"no deletes":                {1, 1, 'a', 1, '1'},
		"a put too few":             {2, 1, 'a', 1, '1', 0},
		"a delete too few":          {0, 2, 1, 'a'},
		"a wide count of puts":      {0xfd, 1, 0, 1, 'a', 1, '1', 0},
		"a wide count of nothing":   {0xfd, 0, 0, 0},
		"a wider one":               {0xfe, 0, 0, 0, 0, 0},
		"the widest one":            {0xff, 0, 0, 0, 0, 0, 0, 0, 0, 0},
		"a wide count of deletes":   {0, 0xfd, 1, 0, 1, 'a'},
		"a wide key":                {1, 0xfd, 1, 0, 'a', 1, '1', 0},
		"a wide value":              {1, 1, 'a', 0xfd, 1, 0, '1', 0},
		"a wide key to delete":      {0, 1, 0xfd, 1, 0, 'a'},
		"2^64 - 1 puts":             append(bytes.Repeat([]byte{0xff}, 9), 0),
		"2^64 - 1 deletes":          append([]byte{0}, bytes.Repeat([]byte{0xff}, 9)...),
		"a key of 2^64 - 1":         append([]byte{1}, bytes.Repeat([]byte{0xff}, 9)...),
		"a value of 2^64 - 1":       append([]byte{1, 1, 'a'}, bytes.Repeat([]byte{0xff}, 9)...),
		"a key of 2^63":             {1, 0xff, 0, 0, 0, 0, 0, 0, 0, 0x80, 'a', 0, 0},
		"2^63 puts":                 {0xff, 0, 0, 0, 0, 0, 0, 0, 0x80, 1, 'a', 0, 0},
		"a frame within":            framesOf(put("a", "1")),
		"bytes":                     sample(200),
		"noughts":                   make([]byte, 200),
		"above 2^20, nothing right": sample(mostBytes + 1),
	}
	for name, b := range impossible() {
		l[name] = written(b)
	}
	return l
}

// P16.1: frames whose sums are right, of batches that can't be.
func TestStrange(t *testing.T) {
	for name, b := range strange() {
		for n := range 3 {
			wantCut(t, fmt.Sprint(name, " behind ", n), slices.Concat(framesOf(few()[:n]...), framed(b), framesOf(few()...)), few()[:n]...)
		}
	}
}

// P16.1: frames whose count of bytes is another one than their batch's.
func TestOtherLength(t *testing.T) {
	good := framed(written(put("a", "1")))
	for _, n := range []uint32{0, 1, 4, 5, 7, 8, 100, mostBytes, mostBytes + 1, 1 << 24, 1<<31 - 1, 1 << 31, 1<<32 - 1} {
		b := bytes.Clone(good)
		binary.LittleEndian.PutUint32(b, n)
		wantCut(t, fmt.Sprint("a length of ", n), slices.Concat(framesOf(few()...), b), few()...)
		wantCut(t, fmt.Sprint("a length of ", n, ", frames behind"), slices.Concat(framesOf(few()...), b, framesOf(few()...)), few()...)
	}
	wide := binary.BigEndian.AppendUint32(nil, 6)
	wantCut(t, "a length the other way round", append(wide, good[4:]...))
	once := sha256.Sum256(good[aheadBytes:])
	wantCut(t, "a sum of one SHA-256", slices.Concat(good[:4], once[:8], good[aheadBytes:]))
	wantCut(t, "noughts", make([]byte, 100))
}

// P16.1: what was cut is synced; what was not cut is as it was.
func TestOpenSynced(t *testing.T) {
	frames := framesOf(few()...)
	for synced := 0; synced <= len(frames); synced += 7 {
		for _, behind := range []string{"", "x", string(sample(50))} {
			x := tapeOf(t, frames[:synced])
			x.Append(frames[synced:])
			x.Append([]byte(behind))
			wantDone(t, "Open", open(t, x), few()...)
			wantBytes(t, "Open", x, frames)
			left := len(frames)
			if behind == "" {
				left = synced
			}
			if x.Synced() != left {
				t.Errorf("%d synced, %d bytes behind: %d synced, not %d", synced, len(behind), x.Synced(), left)
			}
		}
	}
}

// P16.1: an error of the cut is Open's; without a cut there is none.
func TestOpenDead(t *testing.T) {
	frames := framesOf(few()...)
	for _, ahead := range [][]byte{nil, frames} {
		x := tapeOf(t, ahead)
		x.Fuse(0)
		if j, e := journal.Open(x); e != api.OK || j.Halted() {
			t.Errorf("without a cut: %v", e)
		}
		x = tapeOf(t, append(bytes.Clone(ahead), 1, 2, 3))
		x.Fuse(0)
		for range 2 {
			if j, e := journal.Open(x); j != nil || e != api.ErrDead {
				t.Errorf("a dead tape: %v %v", j, e)
			}
			wantBytes(t, "a dead tape", x, append(bytes.Clone(ahead), 1, 2, 3))
		}
		x.Fuse(1)
		j := open(t, x)
		wantBytes(t, "the cut", x, ahead)
		want(t, "behind the cut", j.Commit(api.Batch{}), api.ErrDead)
	}
}

// P16.1: a tape whose room is less than what it has opens as any other.
func TestOpenRoom(t *testing.T) {
	x := tapeOf(t, append(framesOf(few()...), 1, 2, 3))
	x.Room(0)
	j := open(t, x)
	wantDone(t, "Open", j, few()...)
	wantBytes(t, "Open", x, framesOf(few()...))
	want(t, "Commit", j.Commit(api.Batch{}), api.ErrFull)
}

// P16.3: all keys that begin so, rising by their bytes.
func TestKeys(t *testing.T) {
	all := []string{"\x00", "\x00\x00", "A", "a", "a\x00", "aa", "ab", "abc", "abd", "a\xff", "b", "ba", "z", "é", "\xff", "\xff\xff"}
	x, j := fresh(t)
	random := rand.New(rand.NewSource(16))
	for _, i := range random.Perm(len(all)) {
		commit(t, j, put(all[i], "1"))
	}
	slices.Sort(all)
	for range 5 {
		for _, prefix := range append([]string{"", "abce", "c", "a\xfe", "\xff\xff\xff", "\xc3", "B", strings.Repeat("a", 1000)}, all...) {
			var those []string
			for _, key := range all {
				if strings.HasPrefix(key, prefix) {
					those = append(those, key)
				}
			}
			if got := j.Keys(prefix); !slices.Equal(got, those) {
				t.Errorf("%q: %q, not %q", prefix, got, those)
			}
		}
		j = open(t, x)
	}
	commit(t, j, drop(all...))
	if got := j.Keys(""); len(got) != 0 {
		t.Errorf("%q", got)
	}
}

// P16.3: values of keys that are there, and of others.
func TestGet(t *testing.T) {
	_, j := fresh(t)
	commit(t, j, api.Batch{Puts: []api.Pair{{Key: "nil"}, {Key: "none", Value: []byte{}}, {Key: "a", Value: sample(300)}}})
	for key, value := range map[string][]byte{"nil": nil, "none": nil, "a": sample(300)} {
		if got, ok := j.Get(key); !ok || !bytes.Equal(got, value) {
			t.Errorf("%s: %x %v", key, got, ok)
		}
	}
	for _, key := range []string{"", "n", "no", "nonex", "A", "a\x00", strings.Repeat("a", 1000)} {
		if got, ok := j.Get(key); ok || got != nil {
			t.Errorf("%s: %x %v", key, got, ok)
		}
	}
	commit(t, j, drop("a"))
	if got, ok := j.Get("a"); ok || got != nil {
		t.Errorf("deleted: %x %v", got, ok)
	}
}

// crashed commits batches on a tape with a fuse, lets it crash, and opens what is left.
func crashed(t *testing.T, batches []api.Batch, fuse, keep int) {
	t.Helper()
	x, j := fresh(t)
	x.Fuse(fuse)
	n := 0
	for n < len(batches) && j.Commit(batches[n]) == api.OK {
		n++
	}
	loose := len(x.Bytes()) - x.Synced()
	want(t, "Crash", x.Crash(keep), api.OK)
	j = open(t, x)
	if n < len(batches) && loose > 0 && keep >= loose {
		n++
	}
	name := fmt.Sprint("a fuse of ", fuse, ", ", keep, " kept")
	wantDone(t, name, j, batches[:n]...)
	wantBytes(t, name, x, framesOf(batches[:n]...))
	if x.Synced() != len(x.Bytes()) {
		t.Errorf("%s: %d of %d synced", name, x.Synced(), len(x.Bytes()))
	}
	for _, b := range batches[n:] { // it goes on
		want(t, name, j.Commit(b), api.OK)
	}
	wantDone(t, name+", and on", open(t, x), batches...)
}

// P16.4: behind a crash, wherever.
func TestCrash(t *testing.T) {
	longest := 0
	for _, b := range few() {
		longest = max(longest, len(framesOf(b)))
	}
	for fuse := range 2*len(few()) + 2 {
		for keep := -1; keep < longest+3; keep++ {
			crashed(t, few(), fuse, keep)
		}
		crashed(t, few(), fuse, 1<<30)
	}
}

// P16.4: a crash between Open's cut and the next batch, and again and again.
func TestCrashAgain(t *testing.T) {
	random := rand.New(rand.NewSource(4))
	x := tapeOf(t, nil)
	j := open(t, x)
	var all []api.Batch
	for range 400 {
		b := few()[random.Intn(len(few()))]
		x.Fuse(random.Intn(8))
		e := j.Commit(b)
		for e == api.OK {
			all = append(all, b)
			b = few()[random.Intn(len(few()))]
			e = j.Commit(b)
		}
		if e != api.ErrDead {
			t.Fatal(e)
		}
		loose := len(x.Bytes()) - x.Synced()
		keep := random.Intn(40)
		x.Crash(keep)
		if loose > 0 && keep >= loose {
			all = append(all, b)
		}
		j = open(t, x)
		if random.Intn(10) == 0 {
			wantDone(t, "again and again", j, all...)
		}
	}
	wantDone(t, "at the end", j, all...)
}

// P16.5: Open twice is Open once, each journal with keys of its own.
func TestOpenTwice(t *testing.T) {
	for _, behind := range [][]byte{nil, {1}, framed([]byte{1}), sample(100)} {
		x := tapeOf(t, append(framesOf(few()...), behind...))
		j := open(t, x)
		once, synced := x.Bytes(), x.Synced()
		k := open(t, x)
		wantBytes(t, "twice", x, once)
		if x.Synced() != synced || !maps.Equal(state(j), state(k)) || j.Batches() != k.Batches() || k.Halted() {
			t.Errorf("%d synced, %q, %q", x.Synced(), state(j), state(k))
		}
		want(t, "of the one", j.Commit(put("z", "9")), api.OK)
		wantDone(t, "the one", j, append(few(), put("z", "9"))...)
		wantDone(t, "the other", k, few()...)
		want(t, "of the other", k.Commit(put("y", "8")), api.OK)
		wantDone(t, "both", open(t, x), append(few(), put("z", "9"), put("y", "8"))...)
	}
}

// someBatch is any batch of few keys.
func someBatch(random *rand.Rand) api.Batch {
	var b api.Batch
	key := func() string { return strings.Repeat(string(rune('a'+random.Intn(4))), 1+random.Intn(3)) }
	for range random.Intn(5) {
		b.Puts = append(b.Puts, api.Pair{Key: key(), Value: sample(random.Intn(6) * random.Intn(60))})
	}
	for range random.Intn(4) {
		b.Deletes = append(b.Deletes, key())
	}
	return b
}

// P16.1 to P16.3: many batches of any kind, opened again at some.
func TestAnyBatches(t *testing.T) {
	random := rand.New(rand.NewSource(163))
	for range 200 {
		x, j := fresh(t)
		var all []api.Batch
		for range random.Intn(30) {
			b := someBatch(random)
			want(t, "Commit", j.Commit(b), api.OK)
			all = append(all, b)
			if random.Intn(4) == 0 {
				j = open(t, x)
			}
			wantDone(t, "any batches", j, all...)
		}
		wantBytes(t, "any batches", x, framesOf(all...))
	}
}

// A nil journal, one that no call made, and a tape that no call made.
func TestNoJournal(t *testing.T) {
	var none *journal.Journal
	for name, j := range map[string]*journal.Journal{"nil": none, "plain": {}} {
		for _, b := range append(few(), put("", "")) {
			want(t, name, j.Commit(b), api.ErrNil)
		}
		b, ok := j.Get("a")
		if len(b) != 0 || ok || len(j.Keys("")) != 0 || j.Batches() != 0 || j.Halted() {
			t.Errorf("%s: %x %v %q %d %v", name, b, ok, j.Keys(""), j.Batches(), j.Halted())
		}
	}
	var no *tape.Tape
	for name, x := range map[string]*tape.Tape{"nil": no, "plain": {}} {
		if j, e := journal.Open(x); j != nil || e != api.ErrNil {
			t.Errorf("a tape that is %s: %v %v", name, j, e)
		}
	}
}

// Open leaves a tape's fuse, room and bytes as they are, but for the cut.
func TestOpenTape(t *testing.T) {
	x := tapeOf(t, framesOf(few()...))
	x.Room(5)
	x.Fuse(1)
	open(t, x)
	want(t, "Append", x.Append([]byte("a")), api.ErrFull)
	want(t, "Sync", x.Sync(), api.ErrDead)
	wantBytes(t, "Open", x, framesOf(few()...))
}

// A copy of a journal's value is that journal still.
func TestValueCopy(t *testing.T) {
	x, j := fresh(t)
	k := *j
	commit(t, j, few()[0])
	commit(t, &k, few()[1])
	wantDone(t, "the journal", j, few()[:2]...)
	wantDone(t, "its copy", &k, few()[:2]...)
	x.Fuse(0)
	want(t, "the journal", j.Commit(api.Batch{}), api.ErrDead)
	want(t, "its copy", k.Commit(api.Batch{}), api.ErrHalt)
}

// What is handed in is not changed, the room behind its end included, and not kept.
func TestArguments(t *testing.T) {
	room := sample(60)
	puts := append(make([]api.Pair, 0, 9), api.Pair{Key: "a", Value: room[:20]}, api.Pair{Key: "b", Value: room[20:40]})
	deletes := append(make([]string, 0, 9), "c", "d")
	x, j := fresh(t)
	commit(t, j, put("c", "1", "f", "2"), api.Batch{Puts: puts, Deletes: deletes})
	if !bytes.Equal(room, sample(60)) || puts[0].Key != "a" || puts[1].Key != "b" || !slices.Equal(deletes, []string{"c", "d"}) {
		t.Errorf("%x %v %q", room, puts, deletes)
	}
	for _, p := range whole(puts)[2:] {
		if p.Key != "" || p.Value != nil {
			t.Errorf("%v", p)
		}
	}
	for _, key := range whole(deletes)[2:] {
		if key != "" {
			t.Errorf("%q", key)
		}
	}
	clear(room)
	clear(whole(puts))
	clear(whole(deletes))
	all := map[string]string{"a": string(sample(40)[:20]), "b": string(sample(40)[20:]), "f": "2"}
	wantState(t, "behind a change", j, all, 2)
	wantState(t, "behind a change, again", open(t, x), all, 2)
}

// A key that is a piece of a long text does not keep that.
func TestLetsGo(t *testing.T) {
	x, j := fresh(t)
	before := heap()
	for i := range 40 {
		long := strings.Repeat(fmt.Sprint(i+10), 1<<19)
		commit(t, j, put(long[:50], "1"))
	}
	if kept := int64(heap()) - int64(before); kept > 4<<20 {
		t.Errorf("%d bytes are kept", kept)
	}
	if n := len(j.Keys("")); n != 40 || len(x.Bytes()) < 40*50 {
		t.Errorf("%d keys", n)
	}
}

func heap() uint64 {
	runtime.GC()
	var m runtime.MemStats
	runtime.ReadMemStats(&m)
	return m.HeapAlloc
}

// What is answered, spare room included, is no other answer's and not the journal's.
func TestAnswersNew(t *testing.T) {
	x, j := fresh(t)
	commit(t, j, few()...)
	for range 2 {
		before := x.Bytes()
		for _, key := range j.Keys("") {
			value, _ := j.Get(key)
			twin, _ := j.Get(key)
			for i := range whole(value) {
				whole(value)[i] ^= 0x55
			}
			if again, _ := j.Get(key); !bytes.Equal(twin, again) {
				t.Errorf("%q: a value is in another answer", key)
			}
		}
		l := j.Keys("")
		clear(whole(l))
		wantDone(t, "behind a change", j, few()...)
		wantBytes(t, "behind a change", x, before)
		j = open(t, x)
	}
}

// A full tape of the shortest frames, and of the shortest deletes, opens soon.
func TestOpenMuch(t *testing.T) {
	n := api.MaxTape / 14
	j := open(t, tapeOf(t, bytes.Repeat(framesOf(api.Batch{}), n)))
	wantState(t, "the shortest frames", j, nil, n)
	one := framesOf(drop(slices.Repeat([]string{"a"}, api.MaxCount)...))
	n = api.MaxTape / len(one)
	j = open(t, tapeOf(t, bytes.Repeat(one, n)))
	wantState(t, "the shortest deletes", j, nil, n)
}
