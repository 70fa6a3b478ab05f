package address_test

import (
	"bytes"
	"crypto/sha256"
	"encoding/hex"
	"fmt"
	"math/big"
	"math/rand"
	"slices"
	"strings"
	"testing"

	"sporran/address"
	"sporran/api"
	"sporran/script"
)

const (
	digits  = "123456789ABCDEFGHJKLMNPQRSTUVWXYZabcdefghijkmnopqrstuvwxyz"
	letters = "qpzry9x8gf2tvdw0s3jn54khce6mua7l"
	oldEnd  = 1
	rootEnd = 0x2bc830a3
)

// published are addresses that everybody knows, and their scripts.
var published = []struct{ text, script string }{
	{"1A1zP1eP5QGefi2DMPTfTL5SLmv7DivfNa", "76a91462e907b15cbf27d5425399ebf6f0fb50ebb88f1888ac"},
	{"1111111111111111111114oLvT2", "76a914000000000000000000000000000000000000000088ac"},
	{"1NS17iag9jJgTHD1VXjvLCEnZuQ3rJED9L", "76a914eb15231dfceb60925886b67d065299925915aeb188ac"},
	{"3J98t1WpEZ73CNmQviecrnyiWrnqRhWNLy", "a914b472a266d0bd89c13706a4132ccfb16f7c3b9fcb87"},
	{"bc1qqqqqqqqqqqqqqqqqqqqqqqqqqqqqqqqq9e75rs", "00140000000000000000000000000000000000000000"},
	{"bc1qw508d6qejxtdg4y5r3zarvary0c5xw7kv8f3t4", "0014751e76e8199196d454941c45d1b3a323f1433bd6"},
	{"bc1qrp33g0q5c5txsp9arysrx4k6zdkfs4nce4xj0gdcccefvpysxf3qccfmv3", "00201863143c14c5166804bd19203356da136c985678cd4d27a1b8c6329604903262"},
	{"bc1p0xlxvlhemja6c4dqv22uapctqupfhlxm9h8z3k2e72q4k9hcz7vqzk5jj0", "512079be667ef9dcbbac55a06295ce870b07029bfcdb2dce28d959f2815b16f81798"},
}

// none are texts that were published as wrong, or as addresses of what has no kind here.
var none = []string{
	"",
	"mipcBbFg9gMiCh81Kj8tqqdgoZub1ZJRfn",  // another chain's
	"2MzQwSSnBHWHqSAqtTVQ6v47XtaisrJa1Vc", // another chain's
	"5HueCGU8rMjxEXxiPuD5BDku4MkFqeZyd4dZ1jvhTVqvbTLvyTJ",            // a key
	"1NS17iag9jJgTHD1VXjvLCEnZuQ3rJDE9L",                             // two letters that changed places
	"1A1zP1eP5QGefi2DMPTfTL5SLmv7DivfNb",                             // a sum that is another one
	"tb1qw508d6qejxtdg4y5r3zarvary0c5xw7kxpjzsx",                     // another chain's
	"tc1p0xlxvlhemja6c4dqv22uapctqupfhlxm9h8z3k2e72q4k9hcz7vq5zuyut", // nobody's
	"bc1p0xlxvlhemja6c4dqv22uapctqupfhlxm9h8z3k2e72q4k9hcz7vqh2y7hd", // version 1 with the end of version 0
	"BC1S0XLXVLHEMJA6C4DQV22UAPCTQUPFHLXM9H8Z3K2E72Q4K9HCZ7VQ54WELL", // version 16 with that end
	"bc1qw508d6qejxtdg4y5r3zarvary0c5xw7kemeawh",                     // version 0 with the other end
	"bc1p38j9r5y49hruaue7wxjce0updqjuyyx0kh56v8s25huc6995vvpql3jow4", // o
	"BC130XLXVLHEMJA6C4DQV22UAPCTQUPFHLXM9H8Z3K2E72Q4K9HCZ7VQ7ZWS8R", // version 17
	"bc1pw5dgrnzv", // 1 byte
	"bc1p0xlxvlhemja6c4dqv22uapctqupfhlxm9h8z3k2e72q4k9hcz7v8n0nx0muaewav253zgeav", // 41 bytes
	"BC1QR508D6QEJXTDG4Y5R3ZARVARYV98GJ9P",                                         // version 0 of 16 bytes
	"bc1p0xlxvlhemja6c4dqv22uapctqupfhlxm9h8z3k2e72q4k9hcz7v07qwwzcrf",             // a group too many
	"bc1gmk9yu", // no version
	"bc1pw508d6qejxtdg4y5r3zarvary0c5xw7kw508d6qejxtdg4y5r3zarvary0c5xw7kt5nd6y", // version 1 of 40 bytes
	"BC1SW50QGDZ25J",                                                                           // version 16 of 2 bytes
	"bc1zw508d6qejxtdg4y5r3zarvaryvaxxpcs",                                                     // version 2 of 16 bytes
	"Bc1qw508d6qejxtdg4y5r3zarvary0c5xw7kv8f3t4", "bc1QW508D6QEJXTDG4Y5R3ZARVARY0C5XW7KV8F3T4", // both sorts of letters
	"1", "3", "bc1", "BC1", "b", "bc", "bc1q", "bc1p", "q", "bc1qqqqqq", "bc1qqqqqqq",
	" 1A1zP1eP5QGefi2DMPTfTL5SLmv7DivfNa", "1A1zP1eP5QGefi2DMPTfTL5SLmv7DivfNa ", "1A1zP1eP5QGefi2DMPTfTL5SLmv7DivfNa\n",
	"bc1qw508d6qejxtdg4y5r3zarvary0c5xw7kv8f3t4 ", " bc1qw508d6qejxtdg4y5r3zarvary0c5xw7kv8f3t4", "bc1qw508d6qejxtdg4y5r3zarvary0c5xw7kv8f3t4\x00",
	"bcqw508d6qejxtdg4y5r3zarvary0c5xw7kv8f3t4", "qw508d6qejxtdg4y5r3zarvary0c5xw7kv8f3t4",
	"11A1zP1eP5QGefi2DMPTfTL5SLmv7DivfNa", "111111111111111111114oLvT2", "11111111111111111111114oLvT2",
}

// noAddress are scripts of no kind that has one.
var noAddress = []string{
	"", "51", "6a", "6a14751e76e8199196d454941c45d1b3a323f1433bd6", "00", "0014", "5120", "76a91488ac", "a91487",
	"6a0014751e76e8199196d454941c45d1b3a323f1433bd6",
	"0014751e76e8199196d454941c45d1b3a323f1433b", "0014751e76e8199196d454941c45d1b3a323f1433bd600",
	"5114751e76e8199196d454941c45d1b3a323f1433bd6",
	"522079be667ef9dcbbac55a06295ce870b07029bfcdb2dce28d959f2815b16f81798",
	"76a91462e907b15cbf27d5425399ebf6f0fb50ebb88f1888", "a914b472a266d0bd89c13706a4132ccfb16f7c3b9fcb88",
	"4104678afdb0fe5548271967f1a67130b7105cd6a828e03909a67962e0ea1f61deb649f6bc3f4cef38c4f35504e51ec112de5c384df7ba0b8d578a4c702b6bf11d5fac",
}

func unhex(text string) []byte {
	b, err := hex.DecodeString(text)
	if err != nil {
		panic(err)
	}
	return b
}

func sample(n int) []byte {
	b := make([]byte, n)
	for i := range b {
		b[i] = byte(i*37 + i/256 + 11)
	}
	return b
}

func whole(b []byte) []byte {
	return b[:cap(b)]
}

// digitsOf are bytes as digits, reckoned in numbers without end.
func digitsOf(b []byte) string {
	n, base, place := new(big.Int).SetBytes(b), big.NewInt(58), new(big.Int)
	text := ""
	for n.Sign() > 0 {
		n.DivMod(n, base, place)
		text = string(digits[place.Int64()]) + text
	}
	return strings.Repeat("1", len(b)-len(bytes.TrimLeft(b, "\x00"))) + text
}

// sumTextOf is an address with a sum.
func sumTextOf(mark byte, b []byte) string {
	told := append([]byte{mark}, b...)
	first := sha256.Sum256(told)
	sum := sha256.Sum256(first[:])
	return digitsOf(append(told, sum[:4]...))
}

// groupsOf are bytes as groups of five bits, by way of a text of 0 and 1.
func groupsOf(b []byte) []byte {
	text := ""
	for _, x := range b {
		text += fmt.Sprintf("%08b", x)
	}
	text += strings.Repeat("0", (5-len(text)%5)%5)
	var groups []byte
	for ; text != ""; text = text[5:] {
		var x byte
		fmt.Sscanf(text[:5], "%b", &x)
		groups = append(groups, x)
	}
	return groups
}

// checkOf is the check sum's number, as BIP 173 shows it.
func checkOf(numbers []byte) uint32 {
	c := uint32(1)
	for _, x := range numbers {
		top := byte(c >> 25)
		c = c&0x1ffffff<<5 ^ uint32(x)
		if top&1 != 0 {
			c ^= 0x3b6a57b2
		}
		if top&2 != 0 {
			c ^= 0x26508e6d
		}
		if top&4 != 0 {
			c ^= 0x1ea119fa
		}
		if top&8 != 0 {
			c ^= 0x3d4233dd
		}
		if top&16 != 0 {
			c ^= 0x2a1462b3
		}
	}
	return c
}

// rawText is a text of bits whose check comes to an end, whatever numbers it has.
func rawText(name string, numbers []byte, end uint32) string {
	var all []byte
	for _, x := range []byte(name) {
		all = append(all, x>>5)
	}
	all = append(all, 0)
	for _, x := range []byte(name) {
		all = append(all, x&31)
	}
	c := checkOf(slices.Concat(all, numbers, make([]byte, 6))) ^ end
	text := name + "1"
	for _, x := range numbers {
		text += string(letters[x])
	}
	for i := range 6 {
		text += string(letters[c>>(25-5*i)&31])
	}
	return text
}

// bitsTextOf is an address of bits.
func bitsTextOf(version byte, b []byte) string {
	end := uint32(rootEnd)
	if version == 0 {
		end = oldEnd
	}
	return rawText("bc", append([]byte{version}, groupsOf(b)...), end)
}

// kinds are what has an address: how a script is written, and its address.
var kinds = []struct {
	kind, count int
	ahead, tail string
	text        func(b []byte) string
}{
	{api.ScriptKey, 20, "76a914", "88ac", func(b []byte) string { return sumTextOf(0, b) }},
	{api.ScriptHash, 20, "a914", "87", func(b []byte) string { return sumTextOf(5, b) }},
	{api.ScriptKey0, 20, "0014", "", func(b []byte) string { return bitsTextOf(0, b) }},
	{api.ScriptHash0, 32, "0020", "", func(b []byte) string { return bitsTextOf(0, b) }},
	{api.ScriptRoot, 32, "5120", "", func(b []byte) string { return bitsTextOf(1, b) }},
}

// contents are bytes of all sorts, as many as are asked for.
func contents(n int) [][]byte {
	list := [][]byte{make([]byte, n), bytes.Repeat([]byte{0xff}, n), sample(n), append([]byte{0, 0, 0}, sample(n-3)...), append(make([]byte, n-1), 1), append([]byte{0x80}, make([]byte, n-1)...)}
	r := rand.New(rand.NewSource(int64(n)))
	for range 200 {
		b := make([]byte, n)
		r.Read(b)
		list = append(list, b)
	}
	return list
}

// parsed is what the chapter says of a text: it is an address if it is how one that has its bytes is written.
func parsed(s string) []byte {
	for _, k := range kinds[2:] {
		small := strings.ToLower(s)
		if s != small && s != strings.ToUpper(s) || len(s) < 4 {
			continue
		}
		text := ""
		for _, c := range []byte(small[4:]) {
			text += fmt.Sprintf("%05b", max(strings.IndexByte(letters, c), 0))
		}
		if len(text) < 8*k.count {
			continue
		}
		n, _ := new(big.Int).SetString(text[:8*k.count], 2)
		b := n.FillBytes(make([]byte, k.count))
		if small == k.text(b) {
			return slices.Concat(unhex(k.ahead), b, unhex(k.tail))
		}
	}
	return nil
}

func wantScript(t *testing.T, s string, want []byte) {
	t.Helper()
	if b, e := address.Parse(s); !bytes.Equal(b, want) || e != api.OK {
		t.Errorf("Parse(%q): %x %v, not %x", s, b, e, want)
	}
}

func wantNone(t *testing.T, s string) {
	t.Helper()
	if b, e := address.Parse(s); len(b) != 0 || e != api.ErrText {
		t.Errorf("Parse(%q): %x %v", s, b, e)
	}
}

func wantText(t *testing.T, b []byte, want string) {
	t.Helper()
	if s, e := address.Text(b); s != want || e != api.OK {
		t.Errorf("Text(%x): %q %v, not %q", b, s, e, want)
	}
}

func wantDigits(t *testing.T, b []byte, want string) {
	t.Helper()
	if s := address.Base58(b); s != want {
		t.Errorf("Base58(%x): %q, not %q", b, s, want)
	}
}

func wantBytes(t *testing.T, s string, want []byte) {
	t.Helper()
	if b, e := address.Unbase58(s); !bytes.Equal(b, want) || e != api.OK {
		t.Errorf("Unbase58(%q): %x %v, not %x", s, b, e, want)
	}
}

func wantError(t *testing.T, s string, want api.Errno) {
	t.Helper()
	if b, e := address.Unbase58(s); len(b) != 0 || e != want {
		t.Errorf("Unbase58(%q): %x %v, not %v", s, b, e, want)
	}
}

// P14.1: bytes and digits that everybody knows, both ways.
func TestDigitsPublished(t *testing.T) {
	for _, x := range []struct{ bytes, text string }{
		{"", ""},
		{"00", "1"},
		{"01", "2"},
		{"39", "z"},
		{"3a", "21"},
		{"61", "2g"},
		{"626262", "a3gV"},
		{"636363", "aPEr"},
		{"73696d706c792061206c6f6e6720737472696e67", "2cFupjhnEsSn59qHXstmK2ffpLv2"},
		{"00eb15231dfceb60925886b67d065299925915aeb172c06647", "1NS17iag9jJgTHD1VXjvLCEnZuQ3rJDE9L"},
		{"516b6fcd0f", "ABnLTmg"},
		{"bf4f89001e670274dd", "3SEo3LWLoPntC"},
		{"572e4794", "3EFU7m"},
		{"ecac89cad93923c02321", "EJDM8drfXA6uyA"},
		{"10c8511e", "Rt5zm"},
		{"00000000000000000000", "1111111111"},
		{"000111d38e5fc9071ffcd20b4a763cc9ae4f252bb4e48fd66a835e252ada93ff480d6dd43dc62a641155a5", digits},
	} {
		wantDigits(t, unhex(x.bytes), x.text)
		wantBytes(t, x.text, unhex(x.bytes))
	}
	wantDigits(t, nil, "")
}

// P14.1: each count of bytes up to 200, with and without noughts ahead; beyond, nothing.
func TestDigits(t *testing.T) {
	for n := range 201 {
		for _, b := range [][]byte{sample(n), make([]byte, n), bytes.Repeat([]byte{0xff}, n), append(make([]byte, n/2), sample(n-n/2)...), append(sample(n/2), make([]byte, n-n/2)...)} {
			want := digitsOf(b)
			wantDigits(t, b, want)
			wantBytes(t, want, b)
		}
	}
	for _, n := range []int{201, 202, 220, 256, 300, 1000, 1 << 16} {
		wantDigits(t, sample(n), "")
		wantDigits(t, make([]byte, n), "")
	}
}

// P14.1: each digit alone stands for its place; no other byte is a digit.
func TestUnbaseEach(t *testing.T) {
	for x := range 256 {
		s := string([]byte{byte(x)})
		place := strings.Index(digits, s)
		if place < 0 {
			wantError(t, s, api.ErrText)
			wantError(t, "2"+s, api.ErrText)
			wantError(t, s+"z", api.ErrText)
			wantError(t, "11"+s+"11", api.ErrText)
			continue
		}
		wantBytes(t, s, []byte{byte(place)})
		wantBytes(t, "2"+s, []byte{byte(58 + place)})
	}
	for _, s := range []string{"0", "O", "I", "l", " ", "1 ", "\n", "-1", "+1", "1.", "1_1", "\u0131", "\u0131\u0131", "\uff11", "\u0661", "a\u0301", "\u212a", "\U0001d7cf", "1\u20ac", "\ufffd", "\xff\xfe", "1\xf0\x9f"} {
		wantError(t, s, api.ErrText)
	}
}

// P14.1: 300 bytes are read, more are not, whatever they are.
func TestUnbaseLong(t *testing.T) {
	for _, n := range []int{274, 299, 300} {
		wantBytes(t, strings.Repeat("1", n), make([]byte, n))
		want := new(big.Int).Exp(big.NewInt(58), big.NewInt(int64(n)), nil)
		wantBytes(t, strings.Repeat("z", n), want.Sub(want, big.NewInt(1)).Bytes())
		wantError(t, strings.Repeat("z", n-1)+"0", api.ErrText)
		wantError(t, "0"+strings.Repeat("1", n-1), api.ErrText)
	}
	wantError(t, strings.Repeat("\u0131", 150), api.ErrText)
	for _, n := range []int{301, 302, 600, 1 << 16} {
		for _, one := range []string{"1", "z", "0", "\xff", "\x00"} {
			wantError(t, strings.Repeat(one, n), api.ErrFull)
		}
	}
	wantError(t, strings.Repeat("\u0131", 151), api.ErrFull)
	wantError(t, strings.Repeat("1", 300)+"0", api.ErrFull)
}

// P14.2, P14.3: addresses that everybody knows.
func TestPublished(t *testing.T) {
	for _, x := range published {
		wantScript(t, x.text, unhex(x.script))
		wantText(t, unhex(x.script), x.text)
	}
}

// P14.2: what is none of these.
func TestParseNone(t *testing.T) {
	for _, s := range none {
		wantNone(t, s)
	}
	for x := range 256 {
		wantNone(t, string([]byte{byte(x)}))
		wantNone(t, "bc1"+string([]byte{byte(x)}))
	}
}

// P14.2: a text of any length that is no address is none, also where Unbase58 says more of it.
func TestParseLong(t *testing.T) {
	for _, n := range []int{100, 297, 298, 299, 300, 301, 302, 1000, 1 << 20} {
		for _, one := range []string{"1", "z", "q", "0", "\xff"} {
			for _, ahead := range []string{"", "1", "3", "bc1", "bc1q", "bc1p", "BC1"} {
				wantNone(t, ahead+strings.Repeat(one, n))
			}
		}
	}
	for _, x := range published {
		for _, n := range []int{1, 20, 300, 1000} {
			wantNone(t, x.text+strings.Repeat("1", n))
			wantNone(t, strings.Repeat("1", n)+x.text)
			wantNone(t, x.text+strings.Repeat("q", n))
		}
		wantNone(t, x.text+x.text)
	}
}

// P14.2, P14.3: bytes of all sorts, of each kind; there and back (P14.4).
func TestKinds(t *testing.T) {
	for _, k := range kinds {
		for _, b := range contents(k.count) {
			s := slices.Concat(unhex(k.ahead), b, unhex(k.tail))
			want := k.text(b)
			wantText(t, s, want)
			wantScript(t, want, s)
			if kind, in := script.Class(s); kind != k.kind || !bytes.Equal(in, b) {
				t.Fatalf("the test's script %x is of kind %d", s, kind)
			}
		}
	}
}

// P14.2: all letters great; P14.3: they come back as small ones.
func TestGreat(t *testing.T) {
	for _, k := range kinds[2:] {
		for _, b := range contents(k.count)[:20] {
			s := slices.Concat(unhex(k.ahead), b, unhex(k.tail))
			great := strings.ToUpper(k.text(b))
			wantScript(t, great, s)
			back, _ := address.Parse(great)
			wantText(t, back, strings.ToLower(great))
		}
	}
}

// P14.2: one letter of the other sort, in each place; and runes that others take for letters of the other sort.
func TestMixed(t *testing.T) {
	for _, x := range published[4:] {
		great := strings.ToUpper(x.text)
		for i := range x.text {
			if x.text[i] == great[i] { // a figure
				continue
			}
			wantNone(t, x.text[:i]+great[i:i+1]+x.text[i+1:])
			wantNone(t, great[:i]+x.text[i:i+1]+great[i+1:])
			if i > 0 { // the first byte is a letter
				wantNone(t, x.text[:i]+great[i:])
				wantNone(t, great[:i]+x.text[i:])
			}
		}
		for _, s := range []string{x.text, great} {
			for _, turn := range []struct{ from, to string }{{"k", "\u212a"}, {"K", "\u212a"}, {"s", "\u017f"}, {"S", "\u017f"}, {"q", "\uff51"}, {"Q", "\u0151"}, {"q", "\u0171"}} {
				if strings.Contains(s, turn.from) {
					wantNone(t, strings.Replace(s, turn.from, turn.to, 1))
					wantNone(t, strings.ReplaceAll(s, turn.from, turn.to))
				}
			}
		}
	}
}

// P14.2: each first byte but 0 and 5, with a sum that is right.
func TestParseMark(t *testing.T) {
	for mark := range 256 {
		for _, b := range contents(20)[:5] {
			if mark != 0 && mark != 5 {
				wantNone(t, sumTextOf(byte(mark), b))
			}
		}
	}
}

// P14.2: an address with a sum has 25 bytes, and the sum is of the 21 ahead.
func TestParseSum(t *testing.T) {
	for _, mark := range []byte{0, 5} {
		for n := range 60 {
			if n != 20 {
				wantNone(t, sumTextOf(mark, sample(n)))
				wantNone(t, sumTextOf(mark, make([]byte, n)))
			}
		}
		all, _ := address.Unbase58(sumTextOf(mark, sample(20)))
		for bit := range len(all) * 8 {
			turned := bytes.Clone(all)
			turned[bit/8] ^= 1 << (bit % 8)
			wantNone(t, digitsOf(turned))
		}
		once := sha256.Sum256(all[:21])
		wantNone(t, digitsOf(append(all[:21:21], once[:4]...)))
	}
}

// P14.2: other versions, other counts of bytes, the other version's end.
func TestParseVersion(t *testing.T) {
	for version := range byte(32) {
		for n := range 45 {
			for _, end := range []uint32{oldEnd, rootEnd, 0, 2} {
				b := sample(n)
				s := rawText("bc", append([]byte{version}, groupsOf(b)...), end)
				switch {
				case version == 0 && n == 20 && end == oldEnd:
					wantScript(t, s, append([]byte{0, 20}, b...))
				case version == 0 && n == 32 && end == oldEnd:
					wantScript(t, s, append([]byte{0, 32}, b...))
				case version == 1 && n == 32 && end == rootEnd:
					wantScript(t, s, append([]byte{0x51, 32}, b...))
				default:
					wantNone(t, s)
				}
			}
		}
	}
}

// P14.2: groups of any count; behind 32 bytes nothing but noughts.
func TestParseGroups(t *testing.T) {
	for _, end := range []uint32{oldEnd, rootEnd} {
		wantNone(t, rawText("bc", nil, end))
		for version := range byte(3) {
			for n := range 120 {
				s := rawText("bc", append([]byte{version}, make([]byte, n)...), end)
				if n == 32 && version == 0 && end == oldEnd || n == 52 && (version == 0 && end == oldEnd || version == 1 && end == rootEnd) {
					wantScript(t, s, parsed(s))
					continue
				}
				wantNone(t, s)
			}
		}
	}
	for _, x := range []struct {
		version byte
		end     uint32
	}{{0, oldEnd}, {1, rootEnd}} {
		for last := range byte(32) {
			groups := groupsOf(sample(32))
			groups[51] = last
			s := rawText("bc", append([]byte{x.version}, groups...), x.end)
			if last&15 != 0 {
				wantNone(t, s)
				continue
			}
			wantScript(t, s, parsed(s))
		}
	}
	for behind := range byte(32) { // 20 bytes, and a group too many
		wantNone(t, rawText("bc", append(append([]byte{0}, groupsOf(sample(20))...), behind), oldEnd))
	}
}

// P14.2: another beginning, with a check sum that is right.
func TestParseName(t *testing.T) {
	for _, name := range []string{"", "b", "c", "tb", "bcrt", "bd", "cb", "bcc", "bc1", "xbc", "1bc", " bc", "Bc", "bC", "BC"} {
		for _, x := range []struct {
			version byte
			count   int
			end     uint32
		}{{0, 20, oldEnd}, {0, 32, oldEnd}, {1, 32, rootEnd}} {
			wantNone(t, rawText(name, append([]byte{x.version}, groupsOf(sample(x.count))...), x.end))
		}
	}
}

// P14.5: each letter turned to each other byte, in small letters and in great ones.
func TestTurned(t *testing.T) {
	for _, x := range published[4:] {
		for _, s := range []string{x.text, strings.ToUpper(x.text)} {
			for i := range s {
				for c := range 256 {
					if byte(c) != s[i] {
						wantNone(t, s[:i]+string([]byte{byte(c)})+s[i+1:])
					}
				}
			}
		}
	}
}

// P14.2: a letter fewer or more, two that change places, some that are turned; what is an address still is told by its text.
func TestDamaged(t *testing.T) {
	r := rand.New(rand.NewSource(3))
	want := func(s string) {
		t.Helper()
		if b := parsed(s); b != nil {
			wantScript(t, s, b)
			return
		}
		wantNone(t, s)
	}
	for _, x := range published[4:] {
		want(x.text)
		for i := range x.text {
			want(x.text[:i])
			want(x.text[i:])
			want(x.text[:i] + x.text[i+1:])
			for _, c := range letters + "1b" {
				want(x.text[:i] + string(c) + x.text[i:])
			}
			if i > 0 {
				want(x.text[:i-1] + x.text[i:i+1] + x.text[i-1:i] + x.text[i+1:])
			}
		}
		for range 500 {
			s := []byte(x.text)
			for range 1 + r.Intn(4) {
				s[3+r.Intn(len(s)-3)] = letters[r.Intn(32)]
			}
			want(string(s))
		}
	}
}

// P14.3: scripts without an address.
func TestTextNone(t *testing.T) {
	list := [][]byte{nil, {}, sample(1 << 16), append([]byte{0x6a}, sample(1000)...)}
	for _, text := range noAddress {
		list = append(list, unhex(text))
	}
	for x := range 256 {
		list = append(list, []byte{byte(x)}, append([]byte{byte(x)}, sample(30)...))
	}
	for _, b := range list {
		if s, e := address.Text(b); s != "" || e != api.ErrScript {
			t.Errorf("Text(%x): %q %v", b, s, e)
		}
	}
}

// P14.4: digits there and back, with ones ahead.
func TestDigitsBack(t *testing.T) {
	r := rand.New(rand.NewSource(4))
	for range 2000 {
		b := append(make([]byte, r.Intn(5)), sample(r.Intn(190))...)
		r.Read(b[min(4, len(b)):])
		wantBytes(t, address.Base58(b), b)
		s := strings.Repeat("1", r.Intn(5))
		for range r.Intn(200) {
			s += string(digits[r.Intn(58)])
		}
		back, e := address.Unbase58(s)
		if e != api.OK {
			t.Fatalf("Unbase58(%q): %v", s, e)
		}
		wantDigits(t, back, s)
	}
}

// What is handed in is not changed, the room behind its end included, and plays no part; no answer shares memory with it or with another one, spare room included.
func TestMemory(t *testing.T) {
	for _, x := range published {
		in := unhex(x.script)
		s := slices.Concat(in, sample(50))[:len(in)]
		before := bytes.Clone(whole(s))
		wantText(t, s, x.text)
		if !bytes.Equal(whole(s), before) {
			t.Errorf("%x was changed by Text", in)
		}
		first, _ := address.Parse(x.text)
		second, _ := address.Parse(x.text)
		clear(whole(first))
		if !bytes.Equal(second, in) {
			t.Errorf("%s: two answers of Parse share memory", x.text)
		}
		wantScript(t, x.text, in)
	}
	for _, n := range []int{0, 1, 25, 200, 201} {
		b := slices.Concat(sample(n), sample(50))[:n]
		before := bytes.Clone(whole(b))
		text := address.Base58(b)
		if !bytes.Equal(whole(b), before) {
			t.Errorf("%d bytes were changed by Base58", n)
		}
		first, _ := address.Unbase58(text)
		second, _ := address.Unbase58(text)
		kept := bytes.Clone(second)
		clear(whole(first))
		if !bytes.Equal(second, kept) {
			t.Errorf("%d bytes: two answers of Unbase58 share memory", n)
		}
	}
}
