package size_test

import (
	"bytes"
	"math"
	"math/rand"
	"slices"
	"testing"

	"sporran/api"
	"sporran/size"
)

// counts are counts at every edge of a width, with their bytes.
var counts = []struct {
	n    uint64
	form string
}{
	{0, "\x00"},
	{1, "\x01"},
	{0x7f, "\x7f"},
	{0x80, "\x80"},
	{0xfc, "\xfc"},
	{0xfd, "\xfd\xfd\x00"},
	{0xfe, "\xfd\xfe\x00"},
	{0xff, "\xfd\xff\x00"},
	{0x100, "\xfd\x00\x01"},
	{0x1234, "\xfd\x34\x12"},
	{0xfffe, "\xfd\xfe\xff"},
	{0xffff, "\xfd\xff\xff"},
	{0x10000, "\xfe\x00\x00\x01\x00"},
	{0x12345678, "\xfe\x78\x56\x34\x12"},
	{0xfffffffe, "\xfe\xfe\xff\xff\xff"},
	{0xffffffff, "\xfe\xff\xff\xff\xff"},
	{0x100000000, "\xff\x00\x00\x00\x00\x01\x00\x00\x00"},
	{0x123456789abcdef0, "\xff\xf0\xde\xbc\x9a\x78\x56\x34\x12"},
	{math.MaxInt64, "\xff\xff\xff\xff\xff\xff\xff\xff\x7f"},
	{1 << 63, "\xff\x00\x00\x00\x00\x00\x00\x00\x80"},
	{math.MaxUint64 - 1, "\xff\xfe\xff\xff\xff\xff\xff\xff\xff"},
	{math.MaxUint64, "\xff\xff\xff\xff\xff\xff\xff\xff\xff"},
}

// longForms are counts in forms that are not the shortest.
var longForms = []string{
	"\xfd\x00\x00", "\xfd\x01\x00", "\xfd\xfb\x00", "\xfd\xfc\x00",
	"\xfe\x00\x00\x00\x00", "\xfe\xfc\x00\x00\x00", "\xfe\xfd\x00\x00\x00", "\xfe\x00\x01\x00\x00", "\xfe\xff\xff\x00\x00",
	"\xff\x00\x00\x00\x00\x00\x00\x00\x00", "\xff\xfc\x00\x00\x00\x00\x00\x00\x00", "\xff\xfd\x00\x00\x00\x00\x00\x00\x00",
	"\xff\xff\xff\x00\x00\x00\x00\x00\x00", "\xff\x00\x00\x01\x00\x00\x00\x00\x00", "\xff\xff\xff\xff\xff\x00\x00\x00\x00",
}

// behinds are what may stand behind a count or a text.
var behinds = []string{"", "\x00", "z", "\xfd", "\xff\xff\xff\xff\xff\xff\xff\xff\xff", "some bytes that stand behind"}

// lengths are texts' lengths about the edges of widths.
var lengths = []int{0, 1, 2, 0xfb, 0xfc, 0xfd, 0xfe, 0xff, 0x100, 1000, 0xfffe, 0xffff, 0x10000, 0x10001, 100000}

func sample(n int) []byte {
	b := make([]byte, n)
	for i := range b {
		b[i] = byte(i*37 + i/256 + 11)
	}
	return b
}

// whole is a list with the room behind its end.
func whole(b []byte) []byte {
	return b[:cap(b)]
}

// roomy is a list with room behind its end, in which sample bytes stand.
func roomy(b []byte) []byte {
	return slices.Concat(b, sample(50))[:len(b)]
}

func wantNoCount(t *testing.T, b []byte, want api.Errno) {
	t.Helper()
	if n, rest, e := size.Decode(b); n != 0 || len(rest) != 0 || e != want {
		t.Errorf("Decode(%.20x): %d %x %v, not %v", b, n, rest, e, want)
	}
}

func wantNoText(t *testing.T, b []byte, most int, want api.Errno) {
	t.Helper()
	if x, rest, e := size.ReadText(b, most); len(x) != 0 || len(rest) != 0 || e != want {
		t.Errorf("ReadText(%.20x, %d): %x %x %v, not %v", b, most, x, rest, e, want)
	}
}

func wantText(t *testing.T, b []byte, most int, text, behind []byte) {
	t.Helper()
	x, rest, e := size.ReadText(b, most)
	if !bytes.Equal(x, text) || !bytes.Equal(rest, behind) || e != api.OK {
		t.Errorf("ReadText of %d bytes (%.20x), at most %d: %d bytes, %d behind, %v", len(b), b, most, len(x), len(rest), e)
	}
}

// P5.1: the widths' edges.
func TestEncode(t *testing.T) {
	for _, x := range counts {
		if b := size.Encode(x.n); string(b) != x.form {
			t.Errorf("Encode(%x): %x, not %x", x.n, b, x.form)
		}
	}
}

// P5.1: the count, and what stands behind.
func TestDecode(t *testing.T) {
	for _, x := range counts {
		for _, behind := range behinds {
			n, rest, e := size.Decode([]byte(x.form + behind))
			if n != x.n || string(rest) != behind || e != api.OK {
				t.Errorf("Decode(%x and %x): %x %x %v", x.form, behind, n, rest, e)
			}
		}
	}
}

// P5.1: all counts cut short, down to none of their bytes.
func TestDecodeShort(t *testing.T) {
	for _, x := range counts {
		for n := range len(x.form) {
			wantNoCount(t, []byte(x.form[:n]), api.ErrShort)
			wantNoCount(t, []byte(x.form)[:n], api.ErrShort) // the rest stands in the room behind the end
		}
	}
	wantNoCount(t, nil, api.ErrShort)
}

// P5.1: all widths in forms that are not the shortest; cut short they are short ahead of that.
func TestDecodeForm(t *testing.T) {
	for _, form := range longForms {
		for _, behind := range behinds {
			wantNoCount(t, []byte(form+behind), api.ErrForm)
		}
		for n := range len(form) {
			wantNoCount(t, []byte(form[:n]), api.ErrShort)
		}
	}
}

// P5.1: of the counts of two bytes, those below fd alone have a shorter form.
func TestDecodeTwoBytes(t *testing.T) {
	for n := range uint64(0x10000) {
		b := []byte{0xfd, byte(n), byte(n >> 8)}
		if n < 0xfd {
			wantNoCount(t, b, api.ErrForm)
			continue
		}
		if got, rest, e := size.Decode(b); got != n || len(rest) != 0 || e != api.OK {
			t.Errorf("Decode(%x): %x %x %v", b, got, rest, e)
		}
	}
}

// P5.2: the count and the bytes.
func TestText(t *testing.T) {
	for _, x := range []struct{ b, text string }{
		{"", "\x00"},
		{"a", "\x01a"},
		{"\x00\x00", "\x02\x00\x00"},
		{string(sample(0xfc)), "\xfc" + string(sample(0xfc))},
		{string(sample(0xfd)), "\xfd\xfd\x00" + string(sample(0xfd))},
		{string(sample(0xffff)), "\xfd\xff\xff" + string(sample(0xffff))},
		{string(sample(0x10000)), "\xfe\x00\x00\x01\x00" + string(sample(0x10000))},
	} {
		if text := size.Text([]byte(x.b)); string(text) != x.text {
			t.Errorf("Text of %d bytes: %d bytes, %.20x", len(x.b), len(text), text)
		}
	}
	if text := size.Text(nil); string(text) != "\x00" {
		t.Errorf("Text(nil): %x", text)
	}
}

// P5.2: most at the count, above it and below it, with nothing and with bytes behind.
func TestReadText(t *testing.T) {
	for _, n := range lengths {
		text := sample(n)
		for _, behind := range behinds {
			b := slices.Concat(size.Encode(uint64(n)), text, []byte(behind))
			for _, most := range []int{n, n + 1, n + 1000, math.MaxInt} {
				wantText(t, b, most, text, []byte(behind))
			}
			for _, most := range []int{n - 1, n / 2, 0, -1, -n, math.MinInt} {
				if n > 0 {
					wantNoText(t, b, most, api.ErrFull)
				}
			}
		}
	}
}

// P5.2: below 0 is 0, and a text of nothing has room there.
func TestReadTextNone(t *testing.T) {
	for _, most := range []int{0, -1, -1000, math.MinInt, 1, math.MaxInt} {
		wantText(t, []byte{0}, most, nil, nil)
		wantText(t, []byte{0, 7, 8}, most, nil, []byte{7, 8})
	}
	for _, most := range []int{0, -1, math.MinInt} {
		wantNoText(t, []byte{1, 7, 8}, most, api.ErrFull)
	}
}

// P5.2: bytes that are not all there, down to none.
func TestReadTextShort(t *testing.T) {
	for _, n := range []int{1, 2, 5, 0xfc, 0xfd, 0x100} {
		text := size.Text(sample(n))
		for cut := range text {
			wantNoText(t, text[:cut], n, api.ErrShort)
			wantNoText(t, bytes.Clone(text[:cut]), math.MaxInt, api.ErrShort)
		}
	}
}

// P5.2: counts far greater than the bytes that are there.
func TestReadTextHuge(t *testing.T) {
	for _, x := range counts {
		if x.n < 1<<16 {
			continue
		}
		for _, behind := range behinds {
			b := []byte(x.form + behind)
			for _, most := range []int{math.MinInt, -1, 0, 1, 0xffff} {
				wantNoText(t, b, most, api.ErrFull)
			}
			want := api.ErrShort
			if x.n > math.MaxInt {
				want = api.ErrFull
			}
			wantNoText(t, b, math.MaxInt, want)
		}
	}
}

// P5.2: where several errors hold, the first that is named.
func TestReadTextFirst(t *testing.T) {
	wantNoText(t, nil, -1, api.ErrShort)
	wantNoText(t, nil, 10, api.ErrShort)
	for _, form := range longForms {
		for _, most := range []int{math.MinInt, -1, 0, 1, math.MaxInt} {
			wantNoText(t, []byte(form), most, api.ErrForm)
			wantNoText(t, []byte(form+"abc"), most, api.ErrForm)
			for n := range len(form) {
				wantNoText(t, []byte(form[:n]), most, api.ErrShort)
			}
		}
	}
	for _, x := range counts {
		for n := range len(x.form) {
			wantNoText(t, []byte(x.form[:n]), 0, api.ErrShort) // a count above most that is not all there
		}
		if x.n > 0 {
			wantNoText(t, []byte(x.form), 0, api.ErrFull) // bytes that are not all there, and too many
		}
	}
}

// P5.3: counts there and back.
func TestCountBack(t *testing.T) {
	r := rand.New(rand.NewSource(1))
	for range 20000 {
		n := r.Uint64() >> r.Intn(65)
		behind := sample(r.Intn(12))
		b := size.Encode(n)
		got, rest, e := size.Decode(slices.Concat(b, behind))
		if got != n || !bytes.Equal(rest, behind) || e != api.OK {
			t.Fatalf("%x: %x, %x %x %v", n, b, got, rest, e)
		}
	}
}

// P5.3: what any bytes say as a count are these bytes again.
func TestBytesBack(t *testing.T) {
	r := rand.New(rand.NewSource(2))
	for range 20000 {
		b := make([]byte, r.Intn(12))
		for i := range b {
			b[i] = []byte{0, 1, 0xfc, 0xfd, 0xfe, 0xff, byte(r.Intn(256))}[r.Intn(7)]
		}
		n, rest, e := size.Decode(b)
		if e == api.OK && !bytes.Equal(slices.Concat(size.Encode(n), rest), b) {
			t.Fatalf("%x: %x %x", b, n, rest)
		}
	}
}

// P5.3: texts there and back, one behind another.
func TestTextBack(t *testing.T) {
	var b []byte
	for _, n := range lengths {
		b = slices.Concat(b, size.Text(sample(n)))
	}
	for _, n := range lengths {
		text, rest, e := size.ReadText(b, n)
		if !bytes.Equal(text, sample(n)) || e != api.OK {
			t.Fatalf("%d bytes: %d %v", n, len(text), e)
		}
		b = rest
	}
	if len(b) != 0 {
		t.Fatalf("%d bytes are left", len(b))
	}
}

// inputs are bytes that all calls may get.
func inputs() [][]byte {
	l := [][]byte{nil, {}, {0}, {1}, {3, 1, 2, 3}, {3, 1, 2, 3, 4}, {0xfd}, size.Text(sample(300)), append(size.Text(sample(5)), sample(9)...)}
	for _, x := range counts {
		l = append(l, []byte(x.form), []byte(x.form+"abc"))
	}
	return l
}

// What is handed in is not changed, the room behind its end included.
func TestArgumentsStay(t *testing.T) {
	for _, in := range inputs() {
		b := roomy(in)
		before := bytes.Clone(whole(b))
		size.Text(b)
		size.Decode(b)
		for _, most := range []int{-1, 0, 3, 4, math.MaxInt} {
			size.ReadText(b, most)
		}
		if !bytes.Equal(whole(b), before) {
			t.Errorf("%x was changed", in)
		}
	}
}

// No answer shares memory with what came in, spare room included.
func TestAnswersNew(t *testing.T) {
	for _, in := range inputs() {
		b := roomy(in)
		before := bytes.Clone(whole(b))
		_, behindCount, _ := size.Decode(b)
		text, behindText, _ := size.ReadText(b, math.MaxInt)
		for _, answer := range [][]byte{size.Text(b), behindCount, text, behindText} {
			clear(whole(answer))
			if !bytes.Equal(whole(b), before) {
				t.Fatalf("an answer shares memory with %x", in)
			}
		}
	}
}

// No answer hangs on what becomes of its argument later.
func TestArgumentsNotKept(t *testing.T) {
	b := []byte{2, 7, 8, 9}
	written := size.Text(b)
	_, behind, _ := size.Decode(b)
	text, rest, _ := size.ReadText(b, 2)
	clear(b)
	if string(written) != "\x04\x02\x07\x08\x09" || string(behind) != "\x07\x08\x09" || string(text) != "\x07\x08" || string(rest) != "\x09" {
		t.Errorf("%x %x %x %x", written, behind, text, rest)
	}
}

// The two lists of an answer share no memory, spare room included.
func TestAnswersApart(t *testing.T) {
	for _, n := range []int{0, 1, 2, 5, 100, 300} {
		for _, behind := range []int{0, 1, 2, 50} {
			b := slices.Concat(size.Text(sample(n)), sample(behind))
			text, rest, e := size.ReadText(b, n)
			if e != api.OK {
				t.Fatal(e)
			}
			clear(whole(text))
			if !bytes.Equal(rest, sample(behind)) {
				t.Errorf("%d bytes, %d behind: what stands behind is in the text", n, behind)
			}
			text, rest, _ = size.ReadText(b, n)
			clear(whole(rest))
			if !bytes.Equal(text, sample(n)) {
				t.Errorf("%d bytes, %d behind: the text is in what stands behind", n, behind)
			}
		}
	}
}

// No answer shares memory with another one's, spare room included.
func TestAnswersOfTwoCalls(t *testing.T) {
	for _, x := range counts {
		first, second := size.Encode(x.n), size.Encode(x.n)
		for i := range whole(first) {
			whole(first)[i] = 0x55
		}
		if string(second) != x.form || string(size.Encode(x.n)) != x.form {
			t.Errorf("Encode(%x) twice: %x", x.n, second)
		}
	}
	first, second := size.Text([]byte("abc")), size.Text([]byte("abc"))
	clear(whole(first))
	if string(second) != "\x03abc" {
		t.Errorf("Text twice: %x", second)
	}
}
