package pack

import (
	"encoding/binary"
	"math"
	"math/big"
	"slices"
	"strings"
	"testing"
)

// numbers: ordinary ones, and on both sides of every power of two, so of every byte of a Number and every group of a Vary too.
func numbers() []uint64 {
	out := []uint64{0, 5, 300, 1000, 0x0102030405060708, 0xdeadbeefcafebabe, math.MaxUint64}
	for bit := range 64 {
		out = append(out, 1<<bit-1, 1<<bit, 1<<bit+1)
	}
	return out
}

// texts: ordinary ones, and the edges: empty, bytes that look like a Vary, no UTF-8, lengths at which the Vary ahead grows.
func texts() []string {
	out := []string{"", "a", "ab", "\x00", "\x80", "\xff\xff", "\x02ab", "größe, 日本", "\xc3("}
	for _, many := range []int{126, 127, 128, 129, 200, 16383, 16384, 16385} {
		out = append(out, strings.Repeat("x", many))
	}
	return out
}

// wrongSizes are not 1 to 8.
func wrongSizes() []int {
	return []int{0, -1, -8, 9, 10, 16, 64, math.MaxInt32, math.MinInt32, math.MaxInt, math.MinInt}
}

// wantBad: what is read is the zero value, and the reader behind it is Bad with Rest nothing, so not Done.
func wantBad[T comparable](t *testing.T, what string, told T, behind Reader) {
	t.Helper()
	var zero T
	if told != zero || behind != (Reader{Bad: true}) || behind.Done() {
		t.Errorf("%s: told %#v, and behind it %#v; want nothing, and a Bad one", what, told, behind)
	}
}

// TestNumberKnown (P2.1): the lowest size bytes, the highest first.
func TestNumberKnown(t *testing.T) {
	known := []struct {
		n    uint64
		size int
		want string
	}{
		{0, 1, "\x00"},
		{0, 8, "\x00\x00\x00\x00\x00\x00\x00\x00"},
		{255, 1, "\xff"},
		{256, 1, "\x00"},
		{256, 2, "\x01\x00"},
		{258, 2, "\x01\x02"},
		{0x0102030405060708, 1, "\x08"},
		{0x0102030405060708, 3, "\x06\x07\x08"},
		{0x0102030405060708, 7, "\x02\x03\x04\x05\x06\x07\x08"},
		{0x0102030405060708, 8, "\x01\x02\x03\x04\x05\x06\x07\x08"},
		{math.MaxUint64, 8, "\xff\xff\xff\xff\xff\xff\xff\xff"},
	}
	for _, k := range known {
		if got := Number(k.n, k.size); got != k.want {
			t.Errorf("Number(%x, %d) = %x, want %x", k.n, k.size, got, k.want)
		}
	}
}

// TestNumberSizes (P2.1): of each size the end of the eight bytes, as the library tells these.
func TestNumberSizes(t *testing.T) {
	for _, n := range numbers() {
		eight := binary.BigEndian.AppendUint64(nil, n)
		for size := 1; size <= 8; size++ {
			if got, want := Number(n, size), string(eight[8-size:]); got != want {
				t.Errorf("Number(%x, %d) = %x, want %x", n, size, got, want)
			}
		}
	}
}

// TestNumberWrongSize (P2.1): nothing, if size is not 1 to 8.
func TestNumberWrongSize(t *testing.T) {
	for _, size := range wrongSizes() {
		for _, n := range []uint64{0, 1, 300, math.MaxUint64} {
			if got := Number(n, size); got != "" {
				t.Errorf("Number(%d, %d) = %x, want nothing", n, size, got)
			}
		}
	}
}

// TestVaryKnown (P2.1): the chapter's example, the numbers at which a Vary grows by a byte, and the greatest.
func TestVaryKnown(t *testing.T) {
	known := []struct {
		n    uint64
		want string
	}{
		{300, "\xac\x02"}, // the chapter's example
		{0, "\x00"},
		{1, "\x01"},
		{127, "\x7f"},
		{128, "\x80\x01"},
		{129, "\x81\x01"},
		{16383, "\xff\x7f"},
		{16384, "\x80\x80\x01"},
		{1<<63 - 1, "\xff\xff\xff\xff\xff\xff\xff\xff\x7f"},
		{1 << 63, "\x80\x80\x80\x80\x80\x80\x80\x80\x80\x01"},
		{math.MaxUint64, "\xff\xff\xff\xff\xff\xff\xff\xff\xff\x01"},
	}
	for _, k := range known {
		if got := Vary(k.n); got != k.want {
			t.Errorf("Vary(%d) = %x, want %x", k.n, got, k.want)
		}
	}
}

// TestVaryGrows (P2.1): by a byte at each seventh power of two, and nowhere else.
func TestVaryGrows(t *testing.T) {
	for many := 1; many <= 9; many++ {
		edge := uint64(1) << (7 * many)
		if got := len(Vary(edge - 1)); got != many {
			t.Errorf("Vary(%d) has %d bytes, want %d", edge-1, got, many)
		}
		if got := len(Vary(edge)); got != many+1 {
			t.Errorf("Vary(%d) has %d bytes, want %d", edge, got, many+1)
		}
	}
	for _, n := range numbers() {
		if got, want := Vary(n), string(binary.AppendUvarint(nil, n)); got != want {
			t.Errorf("Vary(%d) = %x, want %x", n, got, want)
		}
	}
}

// TestTextKnown (P2.1): Vary of how many bytes (not runes), and the text.
func TestTextKnown(t *testing.T) {
	known := []struct{ s, want string }{
		{"", "\x00"},
		{"a", "\x01a"},
		{"\x00", "\x01\x00"},
		{"\xff\xfe", "\x02\xff\xfe"},
		{"日本", "\x06日本"},
		{strings.Repeat("x", 127), "\x7f" + strings.Repeat("x", 127)},
		{strings.Repeat("x", 128), "\x80\x01" + strings.Repeat("x", 128)},
		{strings.Repeat("x", 300), "\xac\x02" + strings.Repeat("x", 300)},
	}
	for _, k := range known {
		if got := Text(k.s); got != k.want {
			t.Errorf("Text of %d bytes = %q, want %q", len(k.s), got, k.want)
		}
	}
	for _, s := range texts() {
		if got := Text(s); got != Vary(uint64(len(s)))+s {
			t.Errorf("Text of %d bytes = %q", len(s), got)
		}
	}
}

// TestReadNumber (P2.2): the next size bytes, the highest first; what stands behind them stays.
func TestReadNumber(t *testing.T) {
	rest := "\x01\x02\x03\x04\x05\x06\x07\xff\x09"
	wants := []uint64{0x01, 0x0102, 0x010203, 0x01020304, 0x0102030405, 0x010203040506, 0x01020304050607, 0x01020304050607ff}
	for i, want := range wants {
		size := i + 1
		got, behind := Reader{Rest: rest}.Number(size)
		if got != want || behind != (Reader{Rest: rest[size:]}) {
			t.Errorf("size %d: %x, behind it %#v; want %x", size, got, behind, want)
		}
	}
	if got, behind := (Reader{Rest: strings.Repeat("\xff", 8)}).Number(8); got != math.MaxUint64 || !behind.Done() {
		t.Errorf("the greatest: %x, behind it %#v", got, behind)
	}
}

// TestReadNumberShort (P2.2): with any fewer bytes than size it is bad.
func TestReadNumberShort(t *testing.T) {
	for size := 1; size <= 8; size++ {
		for has := range size {
			n, behind := Reader{Rest: strings.Repeat("\x01", has)}.Number(size)
			wantBad(t, "Number of too few bytes", n, behind)
		}
		n, behind := Reader{Rest: strings.Repeat("\x01", size)}.Number(size)
		if n == 0 || !behind.Done() {
			t.Errorf("Number of just %d bytes: %x, behind it %#v", size, n, behind)
		}
	}
}

// TestReadNumberWrongSize (P2.2): as of a Bad one, if size is not 1 to 8, however much there is.
func TestReadNumberWrongSize(t *testing.T) {
	for _, size := range wrongSizes() {
		for _, rest := range []string{"", "\x01", strings.Repeat("\x01", 100)} {
			n, behind := Reader{Rest: rest}.Number(size)
			wantBad(t, "Number of a wrong size", n, behind)
		}
	}
}

// TestReadVary (P2.2): the number whose Vary Rest begins with; what stands behind it stays.
func TestReadVary(t *testing.T) {
	if got, behind := (Reader{Rest: "\xac\x02"}).Vary(); got != 300 || !behind.Done() {
		t.Errorf("bytes 172, 2: %d, behind it %#v", got, behind)
	}
	for _, n := range numbers() {
		for _, behind := range []string{"", "\x00", "\x80", "\xff\xff", "xyz"} {
			got, r := Reader{Rest: Vary(n) + behind}.Vary()
			if got != n || r != (Reader{Rest: behind}) {
				t.Errorf("of Vary(%d) and %x: %d, behind it %#v", n, behind, got, r)
			}
		}
	}
}

// TestReadVaryShort (P2.2): a Vary without its last byte, or bytes, is bad.
func TestReadVaryShort(t *testing.T) {
	for _, n := range numbers() {
		whole := Vary(n)
		for has := range len(whole) {
			got, behind := Reader{Rest: whole[:has]}.Vary()
			wantBad(t, "Vary that is cut", got, behind)
		}
	}
}

// TestReadVaryNone (P2.2, P2.4): bytes that are no number's Vary.
func TestReadVaryNone(t *testing.T) {
	nine := strings.Repeat("\xff", 9)
	none := []string{
		"", "\x80", "\xff", "\x80\x80",
		"\x80\x00", "\xac\x82\x00", "\xff\x00", "\xff\xff\x00", // more bytes than the number needs
		"\x80\x80\x80\x80\x80\x80\x80\x80\x80\x00", nine + "\x00",
		nine + "\x02", nine + "\x03", nine + "\x7f", // above 64 bits
		nine + "\x80", nine + "\x81", nine + "\x80\x01", nine + "\x81\x00", nine + "\xff\x01", // above ten bytes
		strings.Repeat("\x80", 10) + "\x00", strings.Repeat("\x80", 10) + "\x01",
		strings.Repeat("\x80", 1000), strings.Repeat("\xff", 1000),
	}
	for _, s := range none {
		got, behind := Reader{Rest: s}.Vary()
		wantBad(t, "Vary", got, behind)
		if s != "" {
			got, behind = Reader{Rest: s + "\x80\x80"}.Vary()
			wantBad(t, "Vary, with bytes behind it", got, behind)
		}
	}
}

// TestReadVaryPadded (P2.4): no number's Vary with more bytes than it needs is read.
func TestReadVaryPadded(t *testing.T) {
	for _, n := range numbers() {
		padded := []byte(Vary(n))
		for range 12 {
			padded[len(padded)-1] |= 128
			padded = append(padded, 0)
			got, behind := Reader{Rest: string(padded)}.Vary()
			wantBad(t, "padded Vary", got, behind)
		}
	}
}

// TestReadVaryEvery (P2.2, P2.4): of all texts of up to three bytes, and of ends of ten bytes, it is read just if the text begins with the Vary of its groups.
func TestReadVaryEvery(t *testing.T) {
	check := func(s string) {
		got, behind := Reader{Rest: s}.Vary()
		want, many := slowVary(s)
		if many == 0 {
			if got != 0 || behind != (Reader{Bad: true}) {
				t.Fatalf("%x: %d, behind it %#v; want a Bad one", s, got, behind)
			}
			return
		}
		if got != want || behind != (Reader{Rest: s[many:]}) {
			t.Fatalf("%x: %d, behind it %#v; want %d, of %d bytes", s, got, behind, want, many)
		}
	}
	for x := range 1 << 16 {
		a, b := byte(x>>8), byte(x)
		check(string([]byte{a}))
		check(string([]byte{a, b}))
		for _, c := range []byte{0, 1, 127, 128, 255} {
			check(string([]byte{a, b, c}))
		}
		check(strings.Repeat("\x80", 8) + string([]byte{a, b}))
		check(strings.Repeat("\xff", 8) + string([]byte{a, b, 1}))
	}
}

// slowVary is P2.2's word, apart from the program's way: the groups as a number of any length, and the text must begin with its groups, written anew. Of none many is 0.
func slowVary(s string) (n uint64, many int) {
	sum := new(big.Int)
	for i := range len(s) {
		group := new(big.Int).Lsh(big.NewInt(int64(s[i]&127)), uint(7*i))
		sum.Add(sum, group)
		if s[i] < 128 {
			if !sum.IsUint64() {
				return 0, 0
			}
			vary := string(binary.AppendUvarint(nil, sum.Uint64()))
			if !strings.HasPrefix(s, vary) {
				return 0, 0
			}
			return sum.Uint64(), len(vary)
		}
	}
	return 0, 0
}

// TestReadText (P2.2): of just most bytes, and of less; what stands behind it stays.
func TestReadText(t *testing.T) {
	for _, s := range texts() {
		for _, most := range []int{len(s), len(s) + 1, len(s) + 1000, math.MaxInt} {
			for _, behind := range []string{"", "\x00", "xyz", "\xff\xff"} {
				got, r := Reader{Rest: Text(s) + behind}.Text(most)
				if got != s || r != (Reader{Rest: behind}) {
					t.Errorf("text of %d bytes, most %d: %q, behind it %#v", len(s), most, got, r)
				}
			}
		}
	}
}

// TestReadTextAbove (P2.2): of one byte more than most, and of more.
func TestReadTextAbove(t *testing.T) {
	for _, s := range texts() {
		for _, less := range []int{1, 2, len(s)/2 + 1, len(s) + 1} {
			for _, behind := range []string{"", "xyz"} {
				got, r := Reader{Rest: Text(s) + behind}.Text(len(s) - less)
				wantBad(t, "text above most", got, r)
			}
		}
	}
}

// TestReadTextBelowZero (P2.2): with a most below 0 even an empty text has too many bytes; with a most of 0 it has not.
func TestReadTextBelowZero(t *testing.T) {
	for _, most := range []int{-1, -2, -128, math.MinInt32, math.MinInt} {
		for _, rest := range []string{"", "\x00", "\x00xyz", "\x01a", Text(strings.Repeat("x", 200))} {
			got, r := Reader{Rest: rest}.Text(most)
			wantBad(t, "most below 0", got, r)
		}
	}
	if got, r := (Reader{Rest: "\x00x"}).Text(0); got != "" || r != (Reader{Rest: "x"}) {
		t.Errorf("most 0, of nothing: %q, behind it %#v", got, r)
	}
	got, r := Reader{Rest: "\x01x"}.Text(0)
	wantBad(t, "most 0, of one byte", got, r)
}

// TestReadTextShort (P2.2): with one byte less than is told, or any fewer, or none of it.
func TestReadTextShort(t *testing.T) {
	for _, s := range texts() {
		whole := Text(s)
		cuts := []int{0, 1, len(whole) / 2, len(whole) - 2, len(whole) - 1}
		for _, has := range cuts {
			if has < 0 || has >= len(whole) {
				continue
			}
			got, r := Reader{Rest: whole[:has]}.Text(math.MaxInt)
			wantBad(t, "text that is cut", got, r)
		}
	}
}

// TestReadTextHuge (P2.2): lengths that no int holds, or that would wrap with a place added to them, are just too long.
func TestReadTextHuge(t *testing.T) {
	for _, n := range []uint64{4, 1 << 31, 1 << 32, 1<<32 + 3, 1<<63 - 1, 1 << 63, 1<<63 + 3, math.MaxUint64 - 1, math.MaxUint64} {
		for _, most := range []int{0, 3, math.MaxInt32, math.MaxInt, -1, math.MinInt} {
			got, r := Reader{Rest: Vary(n) + "abc"}.Text(most)
			wantBad(t, "text of a huge length", got, r)
		}
	}
}

// TestReadTextNoVary (P2.2): where no Vary stands ahead there is no text.
func TestReadTextNoVary(t *testing.T) {
	for _, s := range []string{"", "\x80", "\x80\x00", "\x82\x00ab", "\xff\xff\xff\xff\xff\xff\xff\xff\xff\x02ab", strings.Repeat("\x80", 11) + "ab"} {
		got, r := Reader{Rest: s}.Text(100)
		wantBad(t, "text without a Vary", got, r)
	}
}

// TestDone (P2.2): is Rest nothing, and it not Bad?
func TestDone(t *testing.T) {
	known := []struct {
		r    Reader
		want bool
	}{
		{Reader{}, true},
		{Reader{Rest: "x"}, false},
		{Reader{Rest: "\x00"}, false},
		{Reader{Bad: true}, false},
		{Reader{Rest: "x", Bad: true}, false},
	}
	for _, k := range known {
		if got := k.r.Done(); got != k.want {
			t.Errorf("Done of %#v = %v", k.r, got)
		}
	}
}

// TestBadStays (P2.2, P2.4): of a Bad reader, whatever its Rest, nothing is read, and the one behind it is Bad, again and again.
func TestBadStays(t *testing.T) {
	for _, rest := range []string{"", "\x01a", "\x00\x00\x00", strings.Repeat("\x01", 50)} {
		for _, size := range append(wrongSizes(), 1, 2, 8) {
			n, behind := Reader{Rest: rest, Bad: true}.Number(size)
			wantBad(t, "Number of a Bad one", n, behind)
		}
		n, behind := Reader{Rest: rest, Bad: true}.Vary()
		wantBad(t, "Vary of a Bad one", n, behind)
		for _, most := range []int{-1, 0, 1, 100, math.MaxInt} {
			s, behind := Reader{Rest: rest, Bad: true}.Text(most)
			wantBad(t, "Text of a Bad one", s, behind)
		}
	}
	s, r := Reader{Rest: "\x03abc\x01x\x05"}.Text(2)
	wantBad(t, "first", s, r)
	s, r = r.Text(2)
	wantBad(t, "second", s, r)
	n, r := r.Vary()
	wantBad(t, "third", n, r)
	n, r = r.Number(1)
	wantBad(t, "fourth", n, r)
}

// TestPutAndRead (P2.4): what was put is read, in order.
func TestPutAndRead(t *testing.T) {
	var all strings.Builder
	for i, n := range numbers() {
		all.WriteString(Number(n, i%8+1) + Vary(n) + Text(texts()[i%len(texts())]))
	}
	r := Reader{Rest: all.String()}
	for i, n := range numbers() {
		var fixed, vary uint64
		var s string
		size := i%8 + 1
		fixed, r = r.Number(size)
		vary, r = r.Vary()
		s, r = r.Text(20000)
		lowest := n & (math.MaxUint64 >> (64 - 8*size))
		if fixed != lowest || vary != n || s != texts()[i%len(texts())] || r.Bad {
			t.Fatalf("at %d: %x, %d, %d bytes, bad %v; want %x, %d", i, fixed, vary, len(s), r.Bad, lowest, n)
		}
	}
	if !r.Done() {
		t.Errorf("behind all: %d bytes", len(r.Rest))
	}
}

// TestReaderIsAValue (P3): who reads off a reader leaves it as it was.
func TestReaderIsAValue(t *testing.T) {
	r := Reader{Rest: "\x02abc"}
	r.Number(1)
	r.Vary()
	r.Text(2)
	r.Text(1)
	r.Done()
	if r != (Reader{Rest: "\x02abc"}) {
		t.Errorf("the reader is %#v", r)
	}
}

// TestHalves (P2.3): lists of none, of one, of an odd and of an even number.
func TestHalves(t *testing.T) {
	known := []struct{ l, a, b []int }{
		{nil, nil, nil},
		{[]int{}, nil, nil},
		{[]int{1}, []int{1}, nil},
		{[]int{1, 2}, []int{1}, []int{2}},
		{[]int{1, 2, 3}, []int{1, 2}, []int{3}},
		{[]int{1, 2, 3, 4}, []int{1, 2}, []int{3, 4}},
		{[]int{1, 2, 3, 4, 5}, []int{1, 2, 3}, []int{4, 5}},
	}
	for _, k := range known {
		if a, b := Halves(k.l); !slices.Equal(a, k.a) || !slices.Equal(b, k.b) {
			t.Errorf("Halves(%v) = %v, %v", k.l, a, b)
		}
	}
	var l []int
	for many := range 200 {
		a, b := Halves(l)
		if len(a) != (many+1)/2 || !slices.Equal(slices.Concat(a, b), l) {
			t.Errorf("Halves of %d: %v, %v", many, a, b)
		}
		l = append(l, many*many)
	}
}

// TestHalvesKinds (P2.3): of whatever type, things that can't be compared and that have no bytes too.
func TestHalvesKinds(t *testing.T) {
	if a, b := Halves([]string{"x", "y", "z"}); !slices.Equal(a, []string{"x", "y"}) || !slices.Equal(b, []string{"z"}) {
		t.Error("texts:", a, b)
	}
	if a, b := Halves(make([]struct{}, 5)); len(a) != 3 || len(b) != 2 {
		t.Error("things of no bytes:", len(a), len(b))
	}
	if a, b := Halves([]Reader{{Rest: "x"}, {Bad: true}}); !slices.Equal(a, []Reader{{Rest: "x"}}) || !slices.Equal(b, []Reader{{Bad: true}}) {
		t.Error("readers:", a, b)
	}
	one := func() int { return 1 }
	if a, b := Halves([]func() int{one, nil, one}); len(a) != 2 || len(b) != 1 || a[0] == nil || a[1] != nil || b[0] == nil {
		t.Error("functions:", len(a), len(b))
	}
}

// TestHalvesNewMemory (P3): neither half shares memory, spare room too, with the list or with the other half.
func TestHalvesNewMemory(t *testing.T) {
	for many := range 12 {
		array := make([]int, many+10)
		for i := range array {
			array[i] = i + 1
		}
		was := slices.Clone(array)
		l := array[2 : 2+many] // room ahead of it, and spare room behind it
		a, b := Halves(l)
		if !slices.Equal(array, was) {
			t.Fatalf("of %d: the list was written into: %v", many, array)
		}
		firstHalf, secondHalf := slices.Clone(a), slices.Clone(b)
		clear(a[:cap(a)])
		if !slices.Equal(array, was) || !slices.Equal(b, secondHalf) {
			t.Errorf("of %d: the first half shares memory", many)
		}
		copy(a, firstHalf)
		clear(b[:cap(b)])
		if !slices.Equal(array, was) || !slices.Equal(a, firstHalf) {
			t.Errorf("of %d: the second half shares memory", many)
		}
		copy(b, secondHalf)
		clear(array)
		if !slices.Equal(a, firstHalf) || !slices.Equal(b, secondHalf) {
			t.Errorf("of %d: a half changes with the list", many)
		}
	}
}

// TestHalvesAppend (P3): appending to a half writes into nothing else.
func TestHalvesAppend(t *testing.T) {
	l := []int{1, 2, 3, 4, 5}
	a, b := Halves(l)
	_ = append(a, 90, 91)
	_ = append(b, 92, 93)
	if !slices.Equal(l, []int{1, 2, 3, 4, 5}) || !slices.Equal(a, []int{1, 2, 3}) || !slices.Equal(b, []int{4, 5}) {
		t.Error(l, a, b)
	}
}
