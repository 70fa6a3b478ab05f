package filter_test

import (
	"bytes"
	"crypto/sha256"
	"encoding/binary"
	"encoding/hex"
	"fmt"
	"math"
	"math/big"
	"math/rand"
	"reflect"
	"slices"
	"strings"
	"testing"

	"sporran/api"
	"sporran/filter"
	"sporran/sip"
)

// published are blocks of the test chain: a block's hash and a filter's header as they are shown, the highest byte first.
var published = []struct {
	block, script, filter, prev, header string
}{
	{
		"000000000933ea01ad0ee984209779baaec3ced90fa3f408719526f8d77f4943",
		"4104678afdb0fe5548271967f1a67130b7105cd6a828e03909a67962e0ea1f61deb649f6bc3f4cef38c4f35504e51ec112de5c384df7ba0b8d578a4c702b6bf11d5fac",
		"019dfca8",
		"0000000000000000000000000000000000000000000000000000000000000000",
		"21584579b7eb08997773e5aeff3a7f932700042d0ed2a6129012b7d7ae81b750",
	},
	{
		"000000006c02c8ea6e4ff69651f7fcde348fb9d557a06e6957b65552002a7820",
		"21038a7f6ef1c8ca0c588aa53fa860128077c9e6c11e6830f4d7ee4e763a56b7718fac",
		"0174a170",
		"d7bdac13a59d745b1add0d2ce852f1a0442e8945fc1bf3848d3cbffd88c24fe1",
		"186afd11ef2b5e7e3504f2e8cbf8df28a1fd251fe53d60dff8b1467d1b386cf0",
	},
}

// unhex is bytes as they stand.
func unhex(text string) []byte {
	b, err := hex.DecodeString(text)
	if err != nil {
		panic(err)
	}
	return b
}

// shown is a hash that is shown with the highest byte first.
func shown(text string) api.Hash {
	b := unhex(text)
	slices.Reverse(b)
	return api.Hash(b)
}

// P12.1, P12.3: filters and headers that everybody knows.
func TestPublished(t *testing.T) {
	for _, x := range published {
		items := [][]byte{unhex(x.script)}
		b, e := filter.Build(shown(x.block), items)
		if !bytes.Equal(b, unhex(x.filter)) || e != api.OK {
			t.Errorf("%s: %x %v, not %s", x.block, b, e, x.filter)
		}
		if h := filter.Chain(filter.Sum(b), shown(x.prev)); h != shown(x.header) {
			t.Errorf("%s: header %x", x.block, h)
		}
		wantMatch(t, shown(x.block), b, items, true)
	}
}

var someID = api.Hash{
	0x01, 0x23, 0x45, 0x67, 0x89, 0xab, 0xcd, 0xef, 0xf0, 0xe1, 0xd2, 0xc3, 0xb4, 0xa5, 0x96, 0x87,
	0x11, 0x22, 0x33, 0x44, 0x55, 0x66, 0x77, 0x88, 0x99, 0xaa, 0xbb, 0xcc, 0xdd, 0xee, 0xff, 0x00,
}

// numberOf is the number of an item in a filter of n items, reckoned in numbers without end.
func numberOf(id api.Hash, item []byte, n int) uint64 {
	sum := sip.Sum(binary.LittleEndian.Uint64(id[:8]), binary.LittleEndian.Uint64(id[8:16]), item)
	x := new(big.Int).SetUint64(sum)
	x.Mul(x, big.NewInt(int64(n)*784931)).Rsh(x, 64)
	return x.Uint64()
}

// countOf is a count's bytes.
func countOf(n int) []byte {
	switch {
	case n < 0xfd:
		return []byte{byte(n)}
	case n <= 0xffff:
		return binary.LittleEndian.AppendUint16([]byte{0xfd}, uint16(n))
	}
	return binary.LittleEndian.AppendUint32([]byte{0xfe}, uint32(n))
}

// bitsOf is the codes of values that rise, as a text of 0 and 1.
func bitsOf(values []uint64) string {
	var text strings.Builder
	ahead := uint64(0)
	for _, v := range values {
		text.WriteString(strings.Repeat("1", int((v-ahead)>>19)))
		fmt.Fprintf(&text, "0%019b", (v-ahead)&(1<<19-1))
		ahead = v
	}
	return text.String()
}

// pack is bits, written as a text, as bytes; noughts fill the last one.
func pack(text string) []byte {
	b := make([]byte, (len(text)+7)/8)
	for i := range text {
		if text[i] == '1' {
			b[i/8] |= 0x80 >> (i % 8)
		}
	}
	return b
}

// written is what the chapter says that a filter with these values is.
func written(values ...uint64) []byte {
	return append(countOf(len(values)), pack(bitsOf(values))...)
}

// built is what the chapter says that a filter of items is.
func built(id api.Hash, items [][]byte) []byte {
	seen := map[string]bool{"": true}
	var kept [][]byte
	for _, item := range items {
		if !seen[string(item)] {
			seen[string(item)] = true
			kept = append(kept, item)
		}
	}
	var values []uint64
	for _, item := range kept {
		values = append(values, numberOf(id, item, len(kept)))
	}
	slices.Sort(values)
	return written(values...)
}

// sample is n items, each unlike all others.
func sample(n, seed int) [][]byte {
	random := rand.New(rand.NewSource(int64(seed)))
	var l [][]byte
	for i := range n {
		item := binary.BigEndian.AppendUint32(nil, uint32(i))
		rest := make([]byte, random.Intn(40))
		random.Read(rest)
		l = append(l, append(item, rest...))
	}
	return l
}

func wantBuild(t *testing.T, name string, id api.Hash, items [][]byte, want []byte) {
	t.Helper()
	if b, e := filter.Build(id, items); !bytes.Equal(b, want) || e != api.OK {
		t.Errorf("%s: %.40x (%d bytes) %v, not %.40x (%d bytes)", name, b, len(b), e, want, len(want))
	}
}

func wantMatch(t *testing.T, id api.Hash, b []byte, items [][]byte, want bool) {
	t.Helper()
	if ok, e := filter.Match(id, b, items); ok != want || e != api.OK {
		t.Errorf("Match of %d items in %.40x: %v %v, not %v", len(items), b, ok, e, want)
	}
}

func wantValues(t *testing.T, name string, b []byte, want []uint64) {
	t.Helper()
	if l, e := filter.Values(b); !slices.Equal(l, want) || e != api.OK {
		t.Errorf("%s: %d values %v, not %d", name, len(l), e, len(want))
	}
}

// wantNone asks whether bytes are no filter, whoever is asked.
func wantNone(t *testing.T, name string, b []byte) {
	t.Helper()
	if l, e := filter.Values(b); len(l) != 0 || e != api.ErrFilter {
		t.Errorf("%s: values %v %v", name, l, e)
	}
	for _, items := range [][][]byte{nil, {{}}, {{0x51}}, sample(5, 1)} {
		if ok, e := filter.Match(someID, b, items); ok || e != api.ErrFilter {
			t.Errorf("%s: Match of %d items %v %v", name, len(items), ok, e)
		}
	}
}

// P12.1: filters of all numbers of items about the edges of the count's widths.
func TestBuild(t *testing.T) {
	for _, n := range []int{0, 1, 2, 3, 4, 5, 8, 100, 252, 253, 254, 1000, 20000} {
		for _, id := range []api.Hash{{}, someID, {31: 1}, {15: 1}, {7: 0x80}} {
			items := sample(n, n)
			wantBuild(t, fmt.Sprintf("%d items", n), id, items, built(id, items))
		}
	}
}

// P12.1: of none it is a nought.
func TestBuildNone(t *testing.T) {
	for _, items := range [][][]byte{nil, {}, {nil}, {{}}, {nil, {}, nil}} {
		wantBuild(t, "of none", someID, items, []byte{0})
		wantMatch(t, someID, []byte{0}, items, false)
	}
	wantMatch(t, someID, []byte{0}, sample(100, 1), false)
	wantMatch(t, api.Hash{}, []byte{0}, [][]byte{{0x51}}, false)
}

// P12.1: the first sixteen bytes of a block's hash are the key, the others play no part.
func TestBuildKey(t *testing.T) {
	items := sample(3, 1)
	want, _ := filter.Build(someID, items)
	for i := range someID {
		id := someID
		id[i] ^= 0x10
		b, e := filter.Build(id, items)
		if e != api.OK || bytes.Equal(b, want) != (i >= 16) {
			t.Errorf("with another byte %d: %x %v", i, b, e)
		}
		if ok, _ := filter.Match(id, want, items); ok != (i >= 16) {
			t.Errorf("with another byte %d: Match %v", i, ok)
		}
	}
}

// twins are two items that have one number in a filter of both.
func twins(id api.Hash) [][]byte {
	seen := map[uint64][]byte{}
	for i := uint32(0); ; i++ {
		item := binary.BigEndian.AppendUint32(nil, i)
		v := numberOf(id, item, 2)
		if other := seen[v]; other != nil {
			return [][]byte{other, item}
		}
		seen[v] = item
	}
}

// P12.1: two items with one number are two of a filter's, the second one nought above the first.
func TestBuildTwins(t *testing.T) {
	items := twins(someID)
	v := numberOf(someID, items[0], 2)
	b := written(v, v)
	wantBuild(t, "twins", someID, items, b)
	wantValues(t, "twins", b, []uint64{v, v})
	wantMatch(t, someID, b, items[:1], true)
	wantMatch(t, someID, b, items[1:], true)
}

// P12.1: MaxCount items are a filter, one more are none; empty ones and those that were there are not counted.
func TestBuildMost(t *testing.T) {
	items := sample(api.MaxCount, 2)
	want := built(someID, items)
	wantBuild(t, "MaxCount", someID, items, want)
	wantBuild(t, "MaxCount and empty ones", someID, append(slices.Clone(items), nil, []byte{}, nil), want)
	wantBuild(t, "MaxCount twice", someID, append(slices.Clone(items), items...), want)
	wantBuild(t, "one often", someID, slices.Repeat(items[:1], api.MaxCount+5), built(someID, items[:1]))
	wantValues(t, "MaxCount", want, valuesOf(someID, items))
	for _, more := range [][][]byte{{{1}}, sample(2*api.MaxCount, 3)} {
		if b, e := filter.Build(someID, append(slices.Clone(items), more...)); len(b) != 0 || e != api.ErrFull {
			t.Errorf("MaxCount and %d more: %d bytes %v", len(more), len(b), e)
		}
	}
}

// valuesOf are the numbers of items that are unlike each other.
func valuesOf(id api.Hash, items [][]byte) []uint64 {
	var l []uint64
	for _, item := range items {
		l = append(l, numberOf(id, item, len(items)))
	}
	slices.Sort(l)
	return l
}

// outs is a transaction with outputs that have these scripts.
func outs(scripts ...string) api.Tx {
	t := api.Tx{In: []api.In{{Script: []byte("in"), Witness: [][]byte{[]byte("witness")}}}}
	for i, s := range scripts {
		t.Out = append(t.Out, api.Out{Value: int64(i), Script: []byte(s)})
	}
	return t
}

func lines(list [][]byte) []string {
	var l []string
	for _, b := range list {
		l = append(l, string(b))
	}
	return l
}

func raw(list ...string) [][]byte {
	var l [][]byte
	for _, s := range list {
		l = append(l, []byte(s))
	}
	return l
}

// P12.1: outputs' scripts in order, then those that are spent, each at its first place.
func TestItems(t *testing.T) {
	for _, x := range []struct {
		name  string
		txs   []api.Tx
		spent [][]byte
		want  []string
	}{
		{"nothing", nil, nil, nil},
		{"no outputs", []api.Tx{outs(), {}}, [][]byte{}, nil},
		{"outputs in order", []api.Tx{outs("c", "a"), outs(), outs("b")}, nil, []string{"c", "a", "b"}},
		{"empty ones", []api.Tx{outs("", "a", ""), outs("")}, raw("", "b", ""), []string{"a", "b"}},
		{"data", []api.Tx{outs("\x6a", "\x6aab", "a\x6a", "\x69", "\x6b")}, nil, []string{"a\x6a", "\x69", "\x6b"}},
		{"data that are spent", []api.Tx{outs("\x6ac", "a")}, raw("\x6a", "\x6ac"), []string{"a", "\x6a", "\x6ac"}},
		{"again in one", []api.Tx{outs("a", "b", "a", "b", "a")}, nil, []string{"a", "b"}},
		{"again in another", []api.Tx{outs("a", "b"), outs("b", "c", "a")}, nil, []string{"a", "b", "c"}},
		{"spent again", []api.Tx{outs("b", "a")}, raw("c", "a", "c", "d", "b"), []string{"b", "a", "c", "d"}},
		{"spent alone", nil, raw("z", "y", "z"), []string{"z", "y"}},
		{"the beginning of another", []api.Tx{outs("ab", "a", "abc")}, raw("a", "abcd"), []string{"ab", "a", "abc", "abcd"}},
	} {
		if got := filter.Items(api.Block{Txs: x.txs}, x.spent); !slices.Equal(lines(got), x.want) {
			t.Errorf("%s: %q, not %q", x.name, lines(got), x.want)
		}
	}
}

// A block's items are unlike each other and all that was handed in, the room behind each end included.
func TestItemsMemory(t *testing.T) {
	shared := []byte("shared")
	b := api.Block{Txs: []api.Tx{outs("a", "b", "\x6ac"), {Out: []api.Out{{Script: shared}, {Script: shared[:3]}, {Script: shared[3:]}}}}}
	spent := append(raw("x", "y", "a"), shared[1:4])
	spent = slices.Concat(spent, raw("room behind"))[:len(spent)]
	wholeSpent := spent[:cap(spent)]
	old, oldSpent := fmt.Sprint(b), fmt.Sprint(wholeSpent)
	got := filter.Items(b, spent)
	want := []string{"a", "b", "shared", "sha", "red", "x", "y", "har"}
	if !slices.Equal(lines(got), want) {
		t.Fatalf("%q", lines(got))
	}
	for i := range got {
		room := got[i][:cap(got[i])]
		kept := bytes.Clone(room)
		for j := range room {
			room[j] ^= 0xff
		}
		if fmt.Sprint(b) != old || fmt.Sprint(wholeSpent) != oldSpent {
			t.Errorf("item %d is the block's", i)
		}
		for j, x := range got {
			if j != i && string(x) != want[j] {
				t.Errorf("item %d shares with item %d", i, j)
			}
		}
		copy(room, kept)
	}
	clear(got[:cap(got)])
	if fmt.Sprint(wholeSpent) != oldSpent {
		t.Error("the list of items is the list of what is spent")
	}
}

const spread = api.RiceSpread

// P12.2: the values, from the least to the greatest that may be.
func TestValues(t *testing.T) {
	wantValues(t, "of none", []byte{0}, nil)
	for _, l := range [][]uint64{
		{0}, {1}, {1<<19 - 1}, {1 << 19}, {spread - 1},
		{0, 0}, {0, 2*spread - 1}, {2*spread - 1, 2*spread - 1}, {5, 5}, {1 << 19, 1 << 20},
		{0, 0, 0, 4*spread - 1}, {3*spread - 1, 3*spread - 1, 3*spread - 1},
		append(make([]uint64, 252), 253*spread-1),
		append(make([]uint64, 19999), 20000*spread-1),
		slices.Repeat([]uint64{20000*spread - 1}, 20000),
	} {
		wantValues(t, fmt.Sprintf("%d values up to %d", len(l), l[len(l)-1]), written(l...), l)
	}
	for n := range 300 {
		items := sample(n, n)
		wantValues(t, fmt.Sprintf("of %d items", n), built(someID, items), valuesOf(someID, items))
	}
}

// P12.2: counts that are none, or too great.
func TestNoCount(t *testing.T) {
	codes := string(make([]byte, 60000))
	for name, text := range map[string]string{
		"no bytes":                   "",
		"a count cut short":          "\xfd",
		"a count cut short by one":   "\xfd\x00",
		"a greater count cut short":  "\xfe\x00\x00\x01",
		"the greatest cut short":     "\xff\x00\x00\x00\x00\x00\x00\x00",
		"1 in three bytes":           "\xfd\x01\x00" + codes[:3],
		"0 in three bytes":           "\xfd\x00\x00",
		"252 in three bytes":         "\xfd\xfc\x00" + codes[:630],
		"253 in five bytes":          "\xfe\xfd\x00\x00\x00" + codes[:633],
		"MaxCount and one":           "\xfd\x21\x4e" + codes[:50003],
		"65535":                      "\xfd\xff\xff" + codes,
		"2^16":                       "\xfe\x00\x00\x01\x00" + codes,
		"2^32 - 1":                   "\xfe\xff\xff\xff\xff" + codes,
		"2^32":                       "\xff\x00\x00\x00\x00\x01\x00\x00\x00" + codes,
		"2^63":                       "\xff\x00\x00\x00\x00\x00\x00\x00\x80" + codes,
		"2^64 - 1":                   "\xff\xff\xff\xff\xff\xff\xff\xff\xff" + codes,
		"2^64 - 1, and all are ones": strings.Repeat("\xff", 1000),
	} {
		wantNone(t, name, []byte(text))
	}
	wantValues(t, "253 in three bytes", []byte("\xfd\xfd\x00"+codes[:633]), make([]uint64, 253))
	wantValues(t, "MaxCount", []byte("\xfd\x20\x4e"+codes[:50000]), make([]uint64, 20000))
}

// P12.2: codes that are cut short, at each byte.
func TestCodesCut(t *testing.T) {
	for _, n := range []int{1, 2, 3, 10, 260} {
		b := built(someID, sample(n, n))
		for cut := range len(b) {
			wantNone(t, fmt.Sprintf("%d of %d bytes", cut, len(b)), b[:cut])
		}
	}
}

// P12.2: values that are not below n * RiceSpread.
func TestValuesTooGreat(t *testing.T) {
	for _, l := range [][]uint64{
		{spread}, {spread + 1}, {1 << 20}, {1 << 25}, {1 << 40 / 1000},
		{2 * spread, 2 * spread}, {0, 2 * spread}, {2*spread - 1, 2 * spread}, {spread, 3 * spread},
		append(make([]uint64, 252), 253*spread), append(make([]uint64, 19999), 20000*spread), slices.Repeat([]uint64{20000 * spread}, 20000),
	} {
		wantNone(t, fmt.Sprintf("%d values up to %d", len(l), l[len(l)-1]), written(l...))
	}
	for _, n := range []int{1, 10, 252} {
		for _, behind := range []string{"", "\x00\x00\x00", "\x7f\xff\xff\xff"} {
			wantNone(t, "ones without end", slices.Concat([]byte{byte(n)}, bytes.Repeat([]byte{0xff}, 1<<16), []byte(behind)))
		}
	}
}

// P12.2: behind the codes fewer than eight bits, all of them noughts.
func TestBehind(t *testing.T) {
	for n := range 40 {
		values := make([]uint64, n)
		text := bitsOf(values)
		b := written(values...)
		wantValues(t, fmt.Sprintf("%d noughts", n), b, values)
		for _, behind := range []string{"\x00", "\x01", "\xff", "\x00\x00", "\x00\x00\x00"} {
			wantNone(t, fmt.Sprintf("%d values and %x", n, behind), append(slices.Clone(b), behind...))
		}
		for at := len(text); at < 8*(len(b)-len(countOf(n))); at++ {
			bad := pack(text + strings.Repeat("0", at-len(text)) + "1")
			wantNone(t, fmt.Sprintf("%d values and a one at %d", n, at), append(countOf(n), bad...))
		}
	}
}

// P12.2: items that are empty have no number, though SipHash has one of nothing.
func TestMatchEmpty(t *testing.T) {
	b := written(numberOf(someID, nil, 1))
	for _, items := range [][][]byte{nil, {}, {nil}, {{}}, {nil, {}, nil}} {
		wantMatch(t, someID, b, items, false)
	}
}

// P12.2: an item's number is reckoned with the filter's n, however many items are asked for, wherever it stands.
func TestMatchNumber(t *testing.T) {
	item := []byte("an item")
	for n := 1; n <= 30; n++ {
		v := numberOf(someID, item, n)
		end := uint64(n) * spread
		for at := range n {
			values := slices.Concat(make([]uint64, at), []uint64{v}, slices.Repeat([]uint64{end - 1}, n-1-at))
			b := written(values...)
			wantMatch(t, someID, b, [][]byte{item}, true)
			wantMatch(t, someID, b, [][]byte{nil, []byte("b"), []byte("c"), item}, true)
			wantMatch(t, someID, b, [][]byte{item, []byte("b"), []byte("b"), nil}, true)
			wantMatch(t, someID, b, [][]byte{nil, []byte("b"), []byte("c")}, false)
			values[at]++
			wantMatch(t, someID, written(values...), [][]byte{item}, false)
			values[at] -= 2
			wantMatch(t, someID, written(values...), [][]byte{item}, false)
		}
	}
}

// P12.3: sums and headers by another SHA-256.
func TestSumChain(t *testing.T) {
	double := func(b []byte) api.Hash {
		first := sha256.Sum256(b)
		return sha256.Sum256(first[:])
	}
	for _, b := range [][]byte{nil, {}, {0}, {1, 2, 3}, built(someID, sample(300, 1)), make([]byte, 200000)} {
		if got := filter.Sum(b); got != double(b) {
			t.Errorf("Sum of %d bytes: %x", len(b), got)
		}
	}
	for _, x := range [][2]api.Hash{{}, {someID, {}}, {{}, someID}, {someID, {1}}, {{1}, someID}, {someID, someID}} {
		if got := filter.Chain(x[0], x[1]); got != double(slices.Concat(x[0][:], x[1][:])) {
			t.Errorf("Chain(%x, %x): %x", x[0], x[1], got)
		}
	}
}

// P12.4: each item alone, and among others.
func TestEachMatches(t *testing.T) {
	random := rand.New(rand.NewSource(4))
	for _, n := range []int{1, 2, 3, 10, 100, 253, 600} {
		var id api.Hash
		random.Read(id[:])
		items := sample(n, n)
		b, e := filter.Build(id, append(slices.Clone(items), nil, items[0]))
		if e != api.OK {
			t.Fatal(e)
		}
		for _, item := range items {
			wantMatch(t, id, b, [][]byte{item}, true)
			wantMatch(t, id, b, [][]byte{nil, []byte("stranger"), item}, true)
		}
		wantMatch(t, id, b, items, true)
	}
}

// P12.5: however items stand, and however often, their filter is one, and so is what matches.
func TestOrder(t *testing.T) {
	random := rand.New(rand.NewSource(5))
	for n := range 60 {
		items := sample(n, n)
		want, _ := filter.Build(someID, items)
		asked := append(slices.Clone(items[:n/2]), []byte("stranger"))
		for range 10 {
			list := slices.Clone(items)
			for _, item := range items {
				list = slices.Concat(list, slices.Repeat([][]byte{item}, random.Intn(3)), make([][]byte, random.Intn(2)))
			}
			random.Shuffle(len(list), func(i, j int) { list[i], list[j] = list[j], list[i] })
			random.Shuffle(len(asked), func(i, j int) { asked[i], asked[j] = asked[j], asked[i] })
			wantBuild(t, fmt.Sprintf("%d items in another order", n), someID, list, want)
			wantMatch(t, someID, want, append(slices.Clone(asked), asked...), n/2 > 0)
		}
	}
}

// What is handed in stays as it is, the room behind each end included, which plays no part.
func TestArgumentsStay(t *testing.T) {
	items := append(sample(20, 1), nil, []byte{}, sample(20, 1)[3])
	slices.Reverse(items)
	for i := range items {
		items[i] = slices.Concat(items[i], []byte("room"))[:len(items[i])]
	}
	list := slices.Concat(items, raw("behind the end"))[:len(items)]
	look := func() string {
		text := ""
		for _, item := range list[:cap(list)] {
			text += fmt.Sprint(item[:cap(item)], len(item))
		}
		return text
	}
	old := look()
	b, e := filter.Build(someID, list)
	if !bytes.Equal(b, built(someID, sample(20, 1))) || e != api.OK {
		t.Errorf("%x %v", b, e)
	}
	room := slices.Concat(b, []byte("behind"))
	short := room[:len(b)]
	wantMatch(t, someID, short, list, true)
	wantValues(t, "with room behind", short, valuesOf(someID, sample(20, 1)))
	wantNone(t, "with that room", room)
	if look() != old || !bytes.Equal(room, append(slices.Clone(b), "behind"...)) {
		t.Error("what was handed in was changed")
	}
	filter.Sum(short)
	if !bytes.Equal(room, append(slices.Clone(b), "behind"...)) {
		t.Error("Sum changed what was handed in")
	}
}

// One answer is not another one's memory.
func TestAnswersApart(t *testing.T) {
	items := sample(30, 1)
	one, _ := filter.Build(someID, items)
	two, _ := filter.Build(someID, items)
	clear(one[:cap(one)])
	if !bytes.Equal(two, built(someID, items)) {
		t.Error("two filters share")
	}
	first, _ := filter.Values(two)
	second, _ := filter.Values(two)
	clear(first[:cap(first)])
	if !slices.Equal(second, valuesOf(someID, items)) || !bytes.Equal(two, built(someID, items)) {
		t.Error("two lists of values share, or one is the filter")
	}
	b := api.Block{Txs: []api.Tx{outs("a", "b")}}
	if !reflect.DeepEqual(filter.Items(b, raw("c")), filter.Items(b, raw("c"))) {
		t.Error("a block's items are not always the same")
	}
}

// Whatever bytes are, a call ends; what is read as a filter is one that is written so.
func TestAnyBytes(t *testing.T) {
	random := rand.New(rand.NewSource(6))
	good := 0
	for range 20000 {
		b := make([]byte, random.Intn(12))
		random.Read(b)
		if len(b) > 0 {
			b[0] %= 4
		}
		if len(b) > 1 {
			b[len(b)-1] &= 0xf0
		}
		l, e := filter.Values(b)
		if e != api.OK && (e != api.ErrFilter || len(l) != 0) {
			t.Errorf("%x: %v %v", b, l, e)
		}
		if e == api.OK {
			good++
			if !bytes.Equal(b, written(l...)) || !slices.IsSorted(l) {
				t.Errorf("%x: %v", b, l)
			}
		}
	}
	if good == 0 || good == 20000 {
		t.Errorf("%d are filters", good)
	}
	if _, e := filter.Values(bytes.Repeat([]byte{0xff}, 1<<20)); e != api.ErrFilter {
		t.Error(e)
	}
}

// Numbers near the end of a filter's span are reckoned as those of its beginning.
func TestSpan(t *testing.T) {
	items := sample(20000, 7)
	l := valuesOf(someID, items)
	if l[len(l)-1] <= math.MaxUint32 || l[len(l)-1] >= 20000*spread {
		t.Fatal(l[len(l)-1])
	}
	b, _ := filter.Build(someID, items)
	wantValues(t, "of MaxCount", b, l)
	for i := 0; i < len(items); i += 4000 {
		wantMatch(t, someID, b, items[i:i+1], true)
	}
}

func BenchmarkBuild(b *testing.B) {
	items := sample(20000, 1)
	for range b.N {
		filter.Build(someID, items)
	}
}

func BenchmarkMatch(b *testing.B) {
	f, _ := filter.Build(someID, sample(20000, 1))
	for range b.N {
		filter.Match(someID, f, raw("one", "two", "three"))
	}
}
