package tape_test

import (
	"bytes"
	"fmt"
	"math"
	"math/rand"
	"runtime"
	"slices"
	"testing"

	"sporran/api"
	"sporran/tape"
)

func sample(n int) []byte {
	b := make([]byte, n)
	for i := range b {
		b[i] = byte(i*37 + i/256 + 11)
	}
	return b
}

func whole[T any](l []T) []T {
	return l[:cap(l)]
}

// wrongRooms are out of 0 to MaxTape, and wrongCounts below 0.
var (
	wrongRooms  = []int{-1, -2, math.MinInt, api.MaxTape + 1, api.MaxTape + 2, 1 << 32, math.MaxInt}
	wrongCounts = []int{-1, -2, -api.MaxTape, math.MinInt}
)

func made(t *testing.T, room int) *tape.Tape {
	t.Helper()
	x, e := tape.New(room)
	if e != api.OK || x == nil {
		t.Fatal(room, e)
	}
	return x
}

// loose is a tape with synced bytes and others behind them.
func loose(t *testing.T, synced, behind string, room int) *tape.Tape {
	t.Helper()
	x, e := tape.Of([]byte(synced), room)
	if e != api.OK || x.Append([]byte(behind)) != api.OK {
		t.Fatal(synced, behind, room, e)
	}
	return x
}

func wantTape(t *testing.T, name string, x *tape.Tape, all string, synced int) {
	t.Helper()
	if b := x.Bytes(); string(b) != all || x.Synced() != synced {
		t.Errorf("%s: %.60q, %d synced; not %.60q, %d synced", name, b, x.Synced(), all, synced)
	}
}

func want(t *testing.T, name string, got, want api.Errno) {
	t.Helper()
	if got != want {
		t.Errorf("%s: %v, not %v", name, got, want)
	}
}

// P15.1: a tape without bytes, of each room that may be.
func TestNew(t *testing.T) {
	for _, room := range []int{0, 1, 2, 1000, api.MaxTape - 1, api.MaxTape} {
		x := made(t, room)
		wantTape(t, fmt.Sprint("room ", room), x, "", 0)
		want(t, "nothing", x.Append(nil), api.OK)
		want(t, "one byte too many", x.Append(make([]byte, room+1)), api.ErrFull)
		wantTape(t, fmt.Sprint("room ", room), x, "", 0)
		want(t, "all bytes that it may have", x.Append(make([]byte, room)), api.OK)
		if n := len(x.Bytes()); n != room {
			t.Errorf("%d bytes, not %d", n, room)
		}
		want(t, "one byte", x.Append([]byte{1}), api.ErrFull)
	}
}

// P15.1: rooms that can't be.
func TestNewNot(t *testing.T) {
	for _, room := range wrongRooms {
		if x, e := tape.New(room); x != nil || e != api.ErrArg {
			t.Errorf("New(%d): %v %v", room, x, e)
		}
		for _, b := range [][]byte{nil, {}, {1}} {
			if x, e := tape.Of(b, room); x != nil || e != api.ErrArg {
				t.Errorf("Of(%v, %d): %v %v", b, room, x, e)
			}
		}
	}
}

// P15.1: a tape of bytes, all synced, up to its room.
func TestOf(t *testing.T) {
	for _, n := range []int{0, 1, 2, 100, 70000, api.MaxTape} {
		for _, room := range []int{0, 1, 2, 100, 70000, api.MaxTape - 1, api.MaxTape} {
			x, e := tape.Of(sample(n), room)
			if n > room {
				if x != nil || e != api.ErrArg {
					t.Errorf("%d bytes, room %d: %v", n, room, e)
				}
				continue
			}
			if e != api.OK || !bytes.Equal(x.Bytes(), sample(n)) || x.Synced() != n {
				t.Fatal(n, room, e, x.Synced())
			}
			want(t, "one too many", x.Append(make([]byte, room-n+1)), api.ErrFull)
			want(t, "as many as it may have", x.Append(make([]byte, room-n)), api.OK)
			if x.Synced() != n || len(x.Bytes()) != room {
				t.Errorf("%d bytes, room %d: %d of %d synced", n, room, x.Synced(), len(x.Bytes()))
			}
		}
	}
	if x, e := tape.Of(sample(api.MaxTape+1), api.MaxTape); x != nil || e != api.ErrArg {
		t.Error("more than MaxTape", e)
	}
}

// The chapter's example.
func TestExample(t *testing.T) {
	x := made(t, 10)
	want(t, "ab", x.Append([]byte("ab")), api.OK)
	want(t, "Sync", x.Sync(), api.OK)
	want(t, "cd", x.Append([]byte("cd")), api.OK)
	wantTape(t, "ahead", x, "abcd", 2)
	want(t, "Crash", x.Crash(1), api.OK)
	wantTape(t, "behind", x, "abc", 3)
}

// P15.2: bytes stand one behind the other, and none is written where not all have room.
func TestAppend(t *testing.T) {
	x := made(t, 6)
	want(t, "ab", x.Append([]byte("ab")), api.OK)
	wantTape(t, "ab", x, "ab", 0)
	want(t, "nothing", x.Append([]byte{}), api.OK)
	want(t, "cde", x.Append([]byte("cde")), api.OK)
	wantTape(t, "cde", x, "abcde", 0)
	want(t, "fg", x.Append([]byte("fg")), api.ErrFull)
	wantTape(t, "fg", x, "abcde", 0)
	want(t, "f", x.Append([]byte("f")), api.OK)
	want(t, "nothing behind all", x.Append(nil), api.OK)
	want(t, "g", x.Append([]byte("g")), api.ErrFull)
	wantTape(t, "g", x, "abcdef", 0)
	want(t, "much", x.Append(make([]byte, 1<<20)), api.ErrFull)
	want(t, "Cut", x.Cut(4), api.OK)
	want(t, "yz", x.Append([]byte("yz")), api.OK)
	wantTape(t, "yz", x, "abcdyz", 4)
}

// P15.2: what was synced stays so, what is appended behind it is not.
func TestSync(t *testing.T) {
	x := made(t, 10)
	want(t, "of nothing", x.Sync(), api.OK)
	wantTape(t, "of nothing", x, "", 0)
	for n := range 5 {
		want(t, "Append", x.Append([]byte{'x', 'x'}), api.OK)
		if x.Synced() != 2*n {
			t.Errorf("%d synced ahead", x.Synced())
		}
		for range 2 {
			want(t, "Sync", x.Sync(), api.OK)
			if x.Synced() != 2*n+2 || len(x.Bytes()) != 2*n+2 {
				t.Errorf("%d of %d synced", x.Synced(), len(x.Bytes()))
			}
		}
	}
}

// P15.2: what is left is synced, wherever the cut is; counts that can't be change nothing.
func TestCut(t *testing.T) {
	const all = "abcdefgh"
	for synced := range len(all) + 1 {
		for n := range len(all) + 1 {
			x := loose(t, all[:synced], all[synced:], 8)
			want(t, "Cut", x.Cut(n), api.OK)
			wantTape(t, fmt.Sprint(synced, " synced, cut at ", n), x, all[:n], n)
			want(t, "Append", x.Append([]byte("123456789")[:8-n]), api.OK)
			wantTape(t, fmt.Sprint("behind a cut at ", n), x, all[:n]+"123456789"[:8-n], n)
		}
		for _, n := range append([]int{len(all) + 1, len(all) + 2, math.MaxInt}, wrongCounts...) {
			x := loose(t, all[:synced], all[synced:], 10)
			want(t, fmt.Sprint("Cut ", n), x.Cut(n), api.ErrArg)
			wantTape(t, fmt.Sprint(synced, " synced, not cut at ", n), x, all, synced)
		}
	}
	x := made(t, 5)
	want(t, "of nothing", x.Cut(0), api.OK)
	want(t, "one of nothing", x.Cut(1), api.ErrArg)
	wantTape(t, "of nothing", x, "", 0)
}

// wantDead asks whether a tape has stopped, and stays as it is, whatever comes.
func wantDead(t *testing.T, name string, x *tape.Tape) {
	t.Helper()
	all, synced := string(x.Bytes()), x.Synced()
	for range 2 {
		want(t, name+": Append of nothing", x.Append(nil), api.ErrDead)
		want(t, name+": Append", x.Append([]byte("x")), api.ErrDead)
		want(t, name+": Append beyond the room", x.Append(make([]byte, api.MaxTape+1)), api.ErrDead)
		want(t, name+": Sync", x.Sync(), api.ErrDead)
		want(t, name+": Cut of nothing", x.Cut(len(all)), api.ErrDead)
		want(t, name+": Cut of all", x.Cut(0), api.ErrDead)
		want(t, name+": Cut beyond", x.Cut(len(all)+1), api.ErrArg)
		want(t, name+": Cut below", x.Cut(-1), api.ErrArg)
		want(t, name+": Fuse below", x.Fuse(-1), api.ErrArg)
		want(t, name+": Room below", x.Room(-1), api.ErrArg)
		wantTape(t, name, x, all, synced)
	}
}

// P15.2, P15.3: n calls are as said, of whichever kind, and none behind them.
func TestFuse(t *testing.T) {
	calls := map[string]func(x *tape.Tape) api.Errno{
		"Append":            func(x *tape.Tape) api.Errno { return x.Append([]byte("z")) },
		"Append of nothing": func(x *tape.Tape) api.Errno { return x.Append(nil) },
		"Sync":              (*tape.Tape).Sync,
		"Cut":               func(x *tape.Tape) api.Errno { return x.Cut(2) },
		"Cut of nothing":    func(x *tape.Tape) api.Errno { return x.Cut(len(x.Bytes())) },
	}
	for name, call := range calls {
		for n := range 6 {
			x := loose(t, "abc", "def", 100)
			y := x.Copy()
			want(t, "Fuse", x.Fuse(n), api.OK)
			for range n {
				want(t, name, call(x), api.OK)
				want(t, name, call(y), api.OK)
				wantTape(t, name, x, string(y.Bytes()), y.Synced())
			}
			wantDead(t, fmt.Sprint(n, " of ", name), x)
		}
	}
}

// P15.2: a call that has no room is one of the n; one that is refused as an argument is none.
func TestFuseOfErrors(t *testing.T) {
	x := loose(t, "abc", "def", 8)
	want(t, "Fuse", x.Fuse(3), api.OK)
	want(t, "no room", x.Append([]byte("ghi")), api.ErrFull)
	for range 10 {
		want(t, "Cut beyond", x.Cut(7), api.ErrArg)
		want(t, "Cut below", x.Cut(-1), api.ErrArg)
	}
	want(t, "gh", x.Append([]byte("gh")), api.OK)
	want(t, "no room again", x.Append([]byte("i")), api.ErrFull)
	wantTape(t, "at the end", x, "abcdefgh", 3)
	wantDead(t, "at the end", x)
}

// P15.3: calls of other kinds take nothing off a fuse, and work behind its end.
func TestFuseOfOthers(t *testing.T) {
	x := loose(t, "abc", "def", 100)
	want(t, "Fuse", x.Fuse(1), api.OK)
	others := func() {
		for range 3 {
			x.Bytes()
			x.Synced()
			want(t, "Fuse below", x.Fuse(-5), api.ErrArg)
			want(t, "Room", x.Room(50), api.OK)
			want(t, "Room below", x.Room(-5), api.ErrArg)
			want(t, "a copy's Sync", x.Copy().Sync(), x.Copy().Append(nil))
		}
	}
	others()
	want(t, "the one", x.Append([]byte("g")), api.OK)
	others()
	wantTape(t, "behind", x, "abcdefg", 3)
	wantDead(t, "behind", x)
}

// P15.3: a fuse takes an earlier one's place, also that of one that has gone out.
func TestFuseAgain(t *testing.T) {
	x := made(t, 10)
	for _, n := range wrongCounts {
		want(t, fmt.Sprint("Fuse ", n), x.Fuse(n), api.ErrArg)
		want(t, "Sync without a fuse", x.Sync(), api.OK)
	}
	want(t, "Fuse", x.Fuse(0), api.OK)
	wantDead(t, "of 0", x)
	want(t, "Fuse", x.Fuse(2), api.OK)
	want(t, "first", x.Append([]byte("a")), api.OK)
	want(t, "Fuse", x.Fuse(2), api.OK)
	want(t, "first", x.Append([]byte("b")), api.OK)
	for _, n := range wrongCounts {
		want(t, fmt.Sprint("Fuse ", n), x.Fuse(n), api.ErrArg)
	}
	want(t, "second", x.Sync(), api.OK)
	wantTape(t, "behind both", x, "ab", 2)
	wantDead(t, "behind both", x)
	want(t, "Fuse", x.Fuse(math.MaxInt), api.OK)
	for range 100 {
		want(t, "one of many", x.Sync(), api.OK)
	}
}

// P15.3: a room may be less than what there is; then nothing is written, be it nothing.
func TestRoom(t *testing.T) {
	x := loose(t, "abc", "def", 6)
	want(t, "g", x.Append([]byte("g")), api.ErrFull)
	want(t, "Room", x.Room(7), api.OK)
	want(t, "g", x.Append([]byte("g")), api.OK)
	for _, n := range wrongRooms {
		want(t, fmt.Sprint("Room ", n), x.Room(n), api.ErrArg)
	}
	want(t, "h", x.Append([]byte("h")), api.ErrFull)
	want(t, "nothing", x.Append(nil), api.OK)
	for _, n := range []int{6, 3, 1, 0} {
		want(t, "Room", x.Room(n), api.OK)
		wantTape(t, "more than the room", x, "abcdefg", 3)
		want(t, "h", x.Append([]byte("h")), api.ErrFull)
		want(t, "nothing", x.Append(nil), api.ErrFull)
	}
	want(t, "Sync", x.Sync(), api.OK)
	wantTape(t, "more than the room", x, "abcdefg", 7)
	want(t, "Room", x.Room(3), api.OK)
	want(t, "Cut", x.Cut(5), api.OK)
	wantTape(t, "more than the room", x, "abcde", 5)
	want(t, "Cut", x.Cut(2), api.OK)
	want(t, "x", x.Append([]byte("x")), api.OK)
	want(t, "y", x.Append([]byte("y")), api.ErrFull)
	want(t, "Room", x.Room(api.MaxTape), api.OK)
	want(t, "all", x.Append(make([]byte, api.MaxTape-3)), api.OK)
	want(t, "one more", x.Append(make([]byte, 1)), api.ErrFull)
}

// P15.4: so many of the bytes that are not synced stay, and all is synced.
func TestCrash(t *testing.T) {
	const all = "abcdefgh"
	for synced := range len(all) + 1 {
		for keep := -3; keep < len(all)+4; keep++ {
			x := loose(t, all[:synced], all[synced:], 10)
			left := min(synced+max(keep, 0), len(all))
			for range 2 { // behind the first one all is synced
				want(t, "Crash", x.Crash(keep), api.OK)
				wantTape(t, fmt.Sprint(synced, " synced, ", keep, " kept"), x, all[:left], left)
			}
			want(t, "Append", x.Append([]byte("xy")), api.OK)
			wantTape(t, "behind a crash", x, all[:left]+"xy", left)
		}
	}
	for _, keep := range []int{math.MinInt, math.MinInt + 1, -1} {
		x := loose(t, "abc", "def", 10)
		want(t, "Crash", x.Crash(keep), api.OK)
		wantTape(t, fmt.Sprint(keep, " kept"), x, "abc", 3)
	}
	for _, keep := range []int{math.MaxInt, math.MaxInt - 1, math.MaxInt - 3, 1 << 32, 3} {
		x := loose(t, "abc", "def", 10)
		want(t, "Crash", x.Crash(keep), api.OK)
		wantTape(t, fmt.Sprint(keep, " kept"), x, "abcdef", 6)
	}
}

// P15.4: behind a crash there is no fuse, be it one that has gone out; the room is what it was.
func TestCrashFuse(t *testing.T) {
	for n := range 3 {
		x := loose(t, "abc", "def", 8)
		want(t, "Fuse", x.Fuse(n), api.OK)
		for range n {
			want(t, "Append", x.Append(nil), api.OK)
		}
		want(t, "Crash", x.Crash(1), api.OK)
		wantTape(t, "behind it", x, "abcd", 4)
		for range 5 {
			want(t, "Sync", x.Sync(), api.OK)
		}
		want(t, "Append", x.Append([]byte("12345")), api.ErrFull)
		want(t, "Append", x.Append([]byte("1234")), api.OK)
		want(t, "Cut", x.Cut(3), api.OK)
	}
	x := loose(t, "abc", "def", 8)
	x.Room(2)
	want(t, "Crash", x.Crash(9), api.OK)
	wantTape(t, "more than the room", x, "abcdef", 6)
	want(t, "Append", x.Append(nil), api.ErrFull)
}

// P15.4: another tape with the same bytes, room and fuse; what is done to the one does nothing to the other.
func TestCopy(t *testing.T) {
	x := loose(t, "abc", "def", 8)
	x.Fuse(3)
	y := x.Copy()
	z := y.Copy()
	want(t, "Append", x.Append([]byte("gh")), api.OK)
	want(t, "Sync", x.Sync(), api.OK)
	want(t, "Room", x.Room(100), api.OK)
	want(t, "Fuse", x.Fuse(0), api.OK)
	wantTape(t, "the copy", y, "abcdef", 3)
	want(t, "too much", y.Append([]byte("123")), api.ErrFull)
	want(t, "xy", y.Append([]byte("xy")), api.OK)
	wantTape(t, "the tape", x, "abcdefgh", 8)
	want(t, "Cut", y.Cut(1), api.OK)
	wantDead(t, "the copy", y)
	wantDead(t, "the tape", x)
	wantTape(t, "the copy's copy", z, "abcdef", 3)
	want(t, "Crash", z.Crash(0), api.OK)
	want(t, "Append", z.Append([]byte("12345")), api.OK)
	wantTape(t, "the copy's copy", z, "abc12345", 3)
	wantTape(t, "the copy", y, "a", 1)
	wantTape(t, "the tape", x, "abcdefgh", 8)
	wantDead(t, "a dead one's copy", x.Copy())
	empty := made(t, 0).Copy()
	wantTape(t, "an empty one's copy", empty, "", 0)
	want(t, "Append", empty.Append([]byte("a")), api.ErrFull)
	want(t, "Append", empty.Append(nil), api.OK)
}

// plan is what the chapter says of a tape, told as plainly as can be.
type plan struct {
	all    string
	synced int
	room   int
	fuse   int // below 0: none
}

func (p *plan) burns() bool {
	if p.fuse == 0 {
		return false
	}
	p.fuse = max(p.fuse-1, -1)
	return true
}

// do is one call, of a plan and of a tape.
func (p *plan) do(x *tape.Tape, kind, n int) (name string, got, want api.Errno) {
	switch kind {
	case 0, 1, 2:
		b := sample(max(n, 0))
		got = x.Append(b)
		switch {
		case !p.burns():
			want = api.ErrDead
		case len(p.all)+len(b) > p.room:
			want = api.ErrFull
		default:
			p.all += string(b)
		}
		return fmt.Sprint("Append ", len(b)), got, want
	case 3:
		got = x.Sync()
		if p.burns() {
			p.synced = len(p.all)
		} else {
			want = api.ErrDead
		}
		return "Sync", got, want
	case 4:
		n = n*3 - 2
		got = x.Cut(n)
		switch {
		case n < 0 || n > len(p.all):
			want = api.ErrArg
		case !p.burns():
			want = api.ErrDead
		default:
			p.all, p.synced = p.all[:n], n
		}
		return fmt.Sprint("Cut ", n), got, want
	case 5:
		got = x.Fuse(n)
		if n < 0 {
			want = api.ErrArg
		} else {
			p.fuse = n
		}
		return fmt.Sprint("Fuse ", n), got, want
	case 6:
		n *= 8
		got = x.Room(n)
		if n < 0 {
			want = api.ErrArg
		} else {
			p.room = n
		}
		return fmt.Sprint("Room ", n), got, want
	}
	got = x.Crash(n)
	p.all = p.all[:min(p.synced+max(n, 0), len(p.all))]
	p.synced, p.fuse = len(p.all), -1
	return fmt.Sprint("Crash ", n), got, want
}

// P15.1 to P15.5: calls of any kind in any order are what a plan says, and what is synced stays, but for Cut.
func TestAnyOrder(t *testing.T) {
	random := rand.New(rand.NewSource(15))
	count := map[api.Errno]int{}
	for range 3000 {
		x := made(t, 40)
		p := &plan{room: 40, fuse: -1}
		var names []string
		for range 40 {
			if random.Intn(10) == 0 {
				x = x.Copy()
			}
			kind, n := random.Intn(8), random.Intn(10)-1
			safe := p.all[:p.synced]
			name, got, want := p.do(x, kind, n)
			names = append(names, name)
			if got != want || string(x.Bytes()) != p.all || x.Synced() != p.synced {
				t.Fatalf("%q: %v, %x, %d synced; not %v, %x, %d synced", names, got, x.Bytes(), x.Synced(), want, p.all, p.synced)
			}
			if kind != 4 && (x.Synced() < len(safe) || string(x.Bytes()[:len(safe)]) != safe) {
				t.Fatalf("%q: %x of %x was synced", names, x.Bytes(), safe)
			}
			count[got]++
		}
	}
	for _, e := range []api.Errno{api.OK, api.ErrArg, api.ErrFull, api.ErrDead} {
		if count[e] < 1000 {
			t.Errorf("only %d answered %v", count[e], e)
		}
	}
}

// A tape that no call made answers ErrNil ahead of all else.
func TestNoTape(t *testing.T) {
	var none *tape.Tape
	for name, x := range map[string]*tape.Tape{"nil": none, "plain": {}} {
		for _, n := range append([]int{0, 1, 1000}, wrongRooms...) {
			want(t, name+" Append", x.Append(make([]byte, max(min(n, api.MaxTape+1), 0))), api.ErrNil)
			want(t, name+" Sync", x.Sync(), api.ErrNil)
			want(t, name+" Cut", x.Cut(n), api.ErrNil)
			want(t, name+" Fuse", x.Fuse(n), api.ErrNil)
			want(t, name+" Room", x.Room(n), api.ErrNil)
			want(t, name+" Crash", x.Crash(n), api.ErrNil)
			if b := x.Bytes(); len(b) != 0 || x.Synced() != 0 || x.Copy() != nil {
				t.Errorf("%s: %x, %d synced, a copy %v", name, b, x.Synced(), x.Copy())
			}
		}
	}
}

// A copy of a tape's value is that tape still, so that neither writes over the other's bytes.
func TestValueCopy(t *testing.T) {
	x := loose(t, "abc", "", 10)
	y := *x
	want(t, "Append", x.Append([]byte("d")), api.OK)
	want(t, "Append", y.Append([]byte("e")), api.OK)
	want(t, "Fuse", x.Fuse(0), api.OK)
	wantTape(t, "the tape", x, "abcde", 3)
	wantTape(t, "its copy", &y, "abcde", 3)
	wantDead(t, "its copy", &y)
}

// What is handed in is not changed, the room behind its end included, and not kept.
func TestArguments(t *testing.T) {
	room := sample(60)
	x, e := tape.Of(room[:20], 100)
	want(t, "Of", e, api.OK)
	want(t, "Append", x.Append(room[20:40]), api.OK)
	want(t, "Append", x.Append([]byte("xyz")), api.OK)
	if !bytes.Equal(room, sample(60)) {
		t.Errorf("%x", room)
	}
	clear(room)
	wantTape(t, "behind a change", x, string(sample(40))+"xyz", 20)
	y := made(t, 100)
	room = sample(60)
	want(t, "Append", y.Append(room[:20]), api.OK)
	want(t, "Append", y.Append([]byte("xyz")), api.OK)
	if !bytes.Equal(room, sample(60)) {
		t.Errorf("%x", room)
	}
	clear(room)
	wantTape(t, "behind a change", y, string(sample(20))+"xyz", 0)
}

// What is answered, spare room included, is no other answer's and not the tape's.
func TestAnswersNew(t *testing.T) {
	for n := range 70 {
		x, _ := tape.Of(sample(n), 1000)
		c := x.Copy()
		b, twin := x.Bytes(), c.Bytes()
		clear(whole(b))
		wantTape(t, "behind a change", x, string(sample(n)), n)
		if again := x.Bytes(); !bytes.Equal(again, sample(n)) || !bytes.Equal(twin, sample(n)) {
			t.Errorf("%x %x", again, twin)
		}
		b = x.Bytes()
		want(t, "Append", x.Append([]byte("abc")), api.OK)
		tail := slices.Clone(whole(b)[len(b):])
		want(t, "Append", x.Append([]byte("def")), api.OK)
		if !bytes.Equal(b, sample(n)) || !bytes.Equal(whole(b)[len(b):], tail) {
			t.Errorf("%d bytes: the tape writes into an answer", n)
		}
		want(t, "Append", c.Append([]byte("xyz123")), api.OK)
		wantTape(t, "the tape", x, string(sample(n))+"abcdef", n)
		wantTape(t, "the copy", c, string(sample(n))+"xyz123", n)
	}
}

// What is cut off is let go.
func TestLetsGo(t *testing.T) {
	tapes := make([]*tape.Tape, 40)
	b := sample(1 << 20)
	before := heap()
	for i := range tapes {
		tapes[i], _ = tape.Of(nil, api.MaxTape)
		want(t, "Append", tapes[i].Append(b), api.OK)
		if i%2 == 0 {
			want(t, "Cut", tapes[i].Cut(1), api.OK)
		} else {
			want(t, "Crash", tapes[i].Crash(1), api.OK)
		}
		wantTape(t, "one byte", tapes[i], string(b[:1]), 1)
	}
	if kept := int64(heap()) - int64(before); kept > int64(len(tapes)*len(b)/10) {
		t.Errorf("%d bytes are kept", kept)
	}
	runtime.KeepAlive(tapes)
}

// Many small steps on a great tape end soon.
func TestManySteps(t *testing.T) {
	x := made(t, api.MaxTape)
	for n := range 1 << 20 {
		if x.Append([]byte{byte(n)}) != api.OK || x.Sync() != api.OK || x.Synced() != n+1 {
			t.Fatal(n)
		}
	}
	for n := 1<<20 - 1; n >= 0; n-- {
		if x.Cut(n) != api.OK || x.Synced() != n {
			t.Fatal(n)
		}
	}
	wantTape(t, "at the end", x, "", 0)
}

func heap() uint64 {
	runtime.GC()
	var m runtime.MemStats
	runtime.ReadMemStats(&m)
	return m.HeapAlloc
}
