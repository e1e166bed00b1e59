package vec

import (
	"encoding/binary"
	"math"
	"math/big"
	"slices"
	"strconv"
	"strings"
	"testing"

	"tenement/api"
	"tenement/pack"
)

// edges: nothing, on both sides of where a Vary grows, Most, and on both sides of it, and of half and all of 64 bits.
func edges() []uint64 {
	return []uint64{0, 1, 2, 9, 10, 127, 128, 16383, 16384, 1 << 32, Most - 1, Most, Most + 1, 1<<63 - 1, 1 << 63, math.MaxUint64 - 1, math.MaxUint64}
}

// few: vectors of every four of some numbers, so that each order of two numbers stands at each place.
func few(numbers ...uint64) []Vec {
	var out []Vec
	for _, a := range numbers {
		for _, b := range numbers {
			for _, c := range numbers {
				for _, d := range numbers {
					out = append(out, Vec{a, b, c, d})
				}
			}
		}
	}
	return out
}

// mixed: so many vectors by a rule that repeats late, of numbers of up to so many bits.
func mixed(many, bits int) []Vec {
	out := make([]Vec, many)
	x := uint64(bits)
	for i := range out {
		for j := range out[i] {
			x = x*6364136223846793005 + 1442695040888963407
			n := x ^ x>>29
			out[i][j] = n >> (64 - (1 + int(x>>33)%bits))
		}
	}
	return out
}

// vectors: ordinary ones, and one of each edge at each place, among zeros and among others.
func vectors() []Vec {
	out := []Vec{{}, {1, 2, 3, 4}, {4, 3, 2, 1}, {1, 5, 0, 2}, {3, 4, 0, 2}, {7, 7, 7, 7}, {300, 20, 1000, 5}}
	for _, n := range edges() {
		out = append(out, Vec{n, n, n, n})
		for place := range api.MaxDCs {
			alone, among := Vec{}, Vec{11, 222, 3333, 44444}
			alone[place], among[place] = n, n
			out = append(out, alone, among)
		}
	}
	return append(out, mixed(40, 64)...)
}

// rightOnes: those of vectors whose numbers are all at most Most.
func rightOnes() []Vec {
	var out []Vec
	for _, v := range vectors() {
		if slices.Max(v[:]) <= 1<<60 {
			out = append(out, v)
		}
	}
	return out
}

// wrongDCs are not 1 to MaxDCs; some of them would be right in fewer bits, or behind a sum that goes round.
func wrongDCs() []int {
	return []int{0, -1, -2, -3, -4, -5, 5, 6, 7, 8, 64, 127, 255, 256, 257, 260, 1 << 16, 1<<16 + 1, 1<<32 + 1, 1<<32 + 4, -1<<32 + 1,
		math.MaxInt32, math.MinInt32, math.MaxInt, math.MaxInt - 1, math.MinInt, math.MinInt + 1, math.MinInt + 4}
}

// wantBad: behind what could not be got are zeros, and a Bad reader with nothing in it.
func wantBad(t *testing.T, what string, r pack.Reader) {
	t.Helper()
	if v, behind := Get(r); v != (Vec{}) || behind != (pack.Reader{Bad: true}) {
		t.Errorf("%s: Get(%#v) = %v, and behind it %#v; want zeros, and a Bad one", what, r, v, behind)
	}
}

// TestConstants (P6.1, P6.2): Most, and how many numbers a vector has.
func TestConstants(t *testing.T) {
	if Most != 1<<60 || api.MaxDCs != 4 || len(Vec{}) != 4 {
		t.Error(uint64(Most), api.MaxDCs, len(Vec{}))
	}
}

// TestRight (P6.1): each number at most Most; one more, at any place, is one too many.
func TestRight(t *testing.T) {
	known := []struct {
		v    Vec
		want bool
	}{
		{Vec{}, true},
		{Vec{1, 2, 3, 4}, true},
		{Vec{1 << 60, 1 << 60, 1 << 60, 1 << 60}, true},
		{Vec{1 << 60, 0, 0, 1 << 60}, true},
		{Vec{1<<60 - 1, 1 << 60, 0, 1}, true},
		{Vec{1<<60 + 1, 0, 0, 0}, false},
		{Vec{0, 1<<60 + 1, 0, 0}, false},
		{Vec{0, 0, 1<<60 + 1, 0}, false},
		{Vec{0, 0, 0, 1<<60 + 1}, false},
		{Vec{1 << 60, 1 << 60, 1 << 60, 1<<60 + 1}, false},
		{Vec{math.MaxUint64, 0, 0, 0}, false},
		{Vec{0, 0, 0, math.MaxUint64}, false},
		{Vec{math.MaxUint64, math.MaxUint64, math.MaxUint64, math.MaxUint64}, false},
		{Vec{1 << 63, 0, 0, 0}, false},
		{Vec{0, 0, 1 << 61, 0}, false},
	}
	for _, k := range known {
		if got := Right(k.v); got != k.want {
			t.Errorf("Right(%v) = %v", k.v, got)
		}
	}
	for _, v := range vectors() {
		if got, want := Right(v), slices.Max(v[:]) <= 1<<60; got != want {
			t.Errorf("Right(%v) = %v", v, got)
		}
	}
}

// TestLeqKnown (P6.1): less at some, the same, more at one place alone; and two of which neither is Leq the other one.
func TestLeqKnown(t *testing.T) {
	known := []struct {
		a, b   Vec
		ab, ba bool
		what   string
	}{
		{Vec{}, Vec{}, true, true, "zeros"},
		{Vec{1, 2, 3, 4}, Vec{1, 2, 3, 4}, true, true, "the same"},
		{Vec{}, Vec{0, 0, 0, 1}, true, false, "more at the last"},
		{Vec{}, Vec{1, 0, 0, 0}, true, false, "more at the first"},
		{Vec{1, 2, 3, 4}, Vec{2, 3, 4, 5}, true, false, "more at all"},
		{Vec{1, 2, 3, 4}, Vec{1, 2, 4, 4}, true, false, "more at one"},
		{Vec{1, 5, 0, 2}, Vec{3, 4, 0, 2}, false, false, "neither"},
		{Vec{1, 0, 0, 0}, Vec{0, 1, 0, 0}, false, false, "neither, of the same sum"},
		{Vec{0, 0, 1, 0}, Vec{0, 0, 0, 9}, false, false, "neither, of the last two"},
		{Vec{9, 9, 9, 0}, Vec{0, 0, 0, 1}, false, false, "neither, with more at most places"},
		{Vec{1 << 63, 0, 0, 0}, Vec{1<<63 - 1, 0, 0, 0}, false, true, "above half of 64 bits"},
		{Vec{0, math.MaxUint64, 0, 0}, Vec{0, 1, 0, 0}, false, true, "the greatest of all"},
		{Vec{Most, Most, Most, Most}, Vec{Most, Most + 1, Most, Most}, true, false, "Most and one more"},
	}
	for _, k := range known {
		if ab, ba := Leq(k.a, k.b), Leq(k.b, k.a); ab != k.ab || ba != k.ba {
			t.Errorf("%s: Leq(%v, %v) = %v, and the other way round %v", k.what, k.a, k.b, ab, ba)
		}
	}
}

// leqByPlaces: is each number of a at most that of b, asked place by place.
func leqByPlaces(a, b Vec) bool {
	return a[0] <= b[0] && a[1] <= b[1] && a[2] <= b[2] && a[3] <= b[3]
}

// TestLeqJoinMeet (P6.1): place by place, of each two vectors of few numbers, and of each two of the edges.
func TestLeqJoinMeet(t *testing.T) {
	for _, l := range [][]Vec{few(0, 1, 2), vectors()} {
		for _, a := range l {
			for _, b := range l {
				join, meet := Join(a, b), Meet(a, b)
				for i := range api.MaxDCs {
					if join[i] != max(a[i], b[i]) {
						t.Errorf("Join(%v, %v) = %v", a, b, join)
					}
					if meet[i] != min(a[i], b[i]) {
						t.Errorf("Meet(%v, %v) = %v", a, b, meet)
					}
				}
				if got := Leq(a, b); got != leqByPlaces(a, b) {
					t.Errorf("Leq(%v, %v) = %v", a, b, got)
				}
			}
		}
	}
}

// TestJoinMeetKnown (P6.1): with the answers written out.
func TestJoinMeetKnown(t *testing.T) {
	known := []struct{ a, b, join, meet Vec }{
		{Vec{}, Vec{}, Vec{}, Vec{}},
		{Vec{1, 5, 0, 2}, Vec{3, 4, 0, 2}, Vec{3, 5, 0, 2}, Vec{1, 4, 0, 2}},
		{Vec{1, 2, 3, 4}, Vec{4, 3, 2, 1}, Vec{4, 3, 3, 4}, Vec{1, 2, 2, 1}},
		{Vec{1, 2, 3, 4}, Vec{}, Vec{1, 2, 3, 4}, Vec{}},
		{Vec{0, 0, 0, 7}, Vec{6, 0, 0, 0}, Vec{6, 0, 0, 7}, Vec{}},
		{Vec{Most, Most + 1, 1, 0}, Vec{Most + 1, Most, 0, 1}, Vec{Most + 1, Most + 1, 1, 1}, Vec{Most, Most, 0, 0}},
		{Vec{math.MaxUint64, 0, 1 << 63, 5}, Vec{0, math.MaxUint64, 1, 5}, Vec{math.MaxUint64, math.MaxUint64, 1 << 63, 5}, Vec{0, 0, 1, 5}},
	}
	for _, k := range known {
		if join, meet := Join(k.a, k.b), Meet(k.a, k.b); join != k.join || meet != k.meet {
			t.Errorf("of %v and %v: Join %v, Meet %v; want %v, %v", k.a, k.b, join, meet, k.join, k.meet)
		}
	}
}

// TestWithKnown (P6.1): each datacenter's number is that of its place, from the first on; v, if it is none.
func TestWithKnown(t *testing.T) {
	v := Vec{1, 5, 0, 2}
	for dc, want := range map[int]Vec{0: {1, 5, 0, 2}, 1: {9, 5, 0, 2}, 2: {1, 9, 0, 2}, 3: {1, 5, 9, 2}, 4: {1, 5, 0, 9}, 5: {1, 5, 0, 2}} {
		if got := With(v, dc, 9); got != want {
			t.Errorf("With(%v, %d, 9) = %v, want %v", v, dc, got, want)
		}
	}
	if v != (Vec{1, 5, 0, 2}) {
		t.Errorf("v is %v now", v)
	}
}

// TestAtKnown (P6.1): each datacenter's number; 0, if it is none.
func TestAtKnown(t *testing.T) {
	for dc, want := range map[int]uint64{0: 0, 1: 8, 2: 5, 3: 7, 4: 2, 5: 0} {
		if got := At(Vec{8, 5, 7, 2}, dc); got != want {
			t.Errorf("At(.., %d) = %d, want %d", dc, got, want)
		}
	}
}

// TestWithAt (P6.1): any number, above Most too, is told as it was set, and the others are as they were.
func TestWithAt(t *testing.T) {
	for _, v := range vectors() {
		for dc := 1; dc <= api.MaxDCs; dc++ {
			for _, n := range edges() {
				with := With(v, dc, n)
				for other := 1; other <= api.MaxDCs; other++ {
					want := v[other-1]
					if other == dc {
						want = n
					}
					if got := At(with, other); got != want {
						t.Errorf("With(%v, %d, %d) has %d at %d", v, dc, n, got, other)
					}
				}
			}
		}
	}
}

// TestWrongDC (P6.1, P6): the least int, the greatest, and others that are no datacenter.
func TestWrongDC(t *testing.T) {
	for _, v := range vectors() {
		for _, dc := range wrongDCs() {
			for _, n := range edges() {
				if got := With(v, dc, n); got != v {
					t.Errorf("With(%v, %d, %d) = %v", v, dc, n, got)
				}
			}
			if got := At(v, dc); got != 0 {
				t.Errorf("At(%v, %d) = %d", v, dc, got)
			}
		}
	}
}

// TestSumKnown (P6.1): of nothing, of some, of the greatest right one, and of such as go round.
func TestSumKnown(t *testing.T) {
	known := []struct {
		v    Vec
		want uint64
	}{
		{Vec{}, 0},
		{Vec{1, 20, 300, 4000}, 4321},
		{Vec{Most, Most, Most, Most}, 1 << 62},
		{Vec{math.MaxUint64, 0, 0, 0}, math.MaxUint64},
		{Vec{math.MaxUint64, 1, 0, 0}, 0},
		{Vec{math.MaxUint64, 2, 0, 0}, 1},
		{Vec{0, 0, 2, math.MaxUint64}, 1},
		{Vec{1 << 63, 0, 0, 1 << 63}, 0},
		{Vec{1 << 63, 1 << 63, 1 << 63, 1 << 63}, 0},
		{Vec{math.MaxUint64, math.MaxUint64, math.MaxUint64, math.MaxUint64}, math.MaxUint64 - 3},
	}
	for _, k := range known {
		if got := Sum(k.v); got != k.want {
			t.Errorf("Sum(%v) = %d, want %d", k.v, got, k.want)
		}
	}
}

// TestSumModulo (P6.1): the sum without bounds, as the library tells it, modulo 2^64.
func TestSumModulo(t *testing.T) {
	round := new(big.Int).Lsh(big.NewInt(1), 64)
	for _, v := range vectors() {
		want := new(big.Int)
		for _, n := range v {
			want.Add(want, new(big.Int).SetUint64(n))
		}
		want.Mod(want, round)
		if got := Sum(v); got != want.Uint64() {
			t.Errorf("Sum(%v) = %d, want %d", v, got, want)
		}
	}
}

// TestAllKnown (P6.1): of none, of one, of several.
func TestAllKnown(t *testing.T) {
	known := []struct {
		l    []Vec
		want Vec
	}{
		{nil, Vec{}},
		{[]Vec{}, Vec{}},
		{[]Vec{{}}, Vec{}},
		{[]Vec{{1, 2, 3, 4}}, Vec{1, 2, 3, 4}},
		{[]Vec{{math.MaxUint64, Most + 1, Most, 0}}, Vec{math.MaxUint64, Most + 1, Most, 0}},
		{[]Vec{{1, 2, 3, 4}, {1, 2, 3, 4}}, Vec{1, 2, 3, 4}},
		{[]Vec{{1, 2, 3, 4}, {4, 3, 2, 1}}, Vec{1, 2, 2, 1}},
		{[]Vec{{1, 5, 0, 2}, {3, 4, 0, 2}, {9, 9, 9, 1}}, Vec{1, 4, 0, 1}},
		{[]Vec{{1, 9, 9, 9}, {9, 1, 9, 9}, {9, 9, 1, 9}, {9, 9, 9, 1}}, Vec{1, 1, 1, 1}},
		{[]Vec{{9, 9, 9, 9}, {8, 8, 8, 8}, {}}, Vec{}},
		{[]Vec{{}, {8, 8, 8, 8}, {9, 9, 9, 9}}, Vec{}},
		{[]Vec{{math.MaxUint64, 0, 1 << 63, 7}, {math.MaxUint64 - 1, 0, 1<<63 - 1, 8}}, Vec{math.MaxUint64 - 1, 0, 1<<63 - 1, 7}},
	}
	for _, k := range known {
		if got := All(k.l); got != k.want {
			t.Errorf("All(%v) = %v, want %v", k.l, got, k.want)
		}
	}
}

// TestAllMany (P6.1): of each number of vectors, the least at each place.
func TestAllMany(t *testing.T) {
	l := mixed(100, 64)
	for many := 1; many <= len(l); many++ {
		var want Vec
		for i := range want {
			want[i] = l[0][i]
			for _, v := range l[:many] {
				want[i] = min(want[i], v[i])
			}
		}
		if got := All(l[:many]); got != want {
			t.Errorf("All of %d = %v, want %v", many, got, want)
		}
	}
}

// TestAllLeavesItsList (P3): neither the list is written into, nor what stands ahead of it and behind it in its array.
func TestAllLeavesItsList(t *testing.T) {
	array := mixed(12, 64)
	was := slices.Clone(array)
	for from := range array {
		for to := from; to <= len(array); to++ {
			All(array[from:to])
		}
	}
	if !slices.Equal(array, was) {
		t.Error("the list is another one now")
	}
}

// TestPutKnown (P6.2): Vary of each, from the first on.
func TestPutKnown(t *testing.T) {
	known := []struct {
		v    Vec
		want string
	}{
		{Vec{}, "\x00\x00\x00\x00"},
		{Vec{1, 2, 3, 4}, "\x01\x02\x03\x04"},
		{Vec{300, 0, 127, 128}, "\xac\x02\x00\x7f\x80\x01"},
		{Vec{0, 127, 128, 1 << 60}, "\x00\x7f\x80\x01\x80\x80\x80\x80\x80\x80\x80\x80\x10"},
		{Vec{1<<60 + 1, 0, 0, 0}, "\x81\x80\x80\x80\x80\x80\x80\x80\x10\x00\x00\x00"},
		{Vec{0, 0, 0, math.MaxUint64}, "\x00\x00\x00\xff\xff\xff\xff\xff\xff\xff\xff\xff\x01"},
	}
	for _, k := range known {
		if got := Put(k.v); got != k.want {
			t.Errorf("Put(%v) = %x, want %x", k.v, got, k.want)
		}
	}
	for _, v := range vectors() {
		var want []byte
		for _, n := range v {
			want = binary.AppendUvarint(want, n)
		}
		if got := Put(v); got != string(want) {
			t.Errorf("Put(%v) = %x, want %x", v, got, want)
		}
	}
}

// TestGetRight (P6.2): a right vector is got as it was put; what stands behind it stays, and where nothing does the reader is Done.
func TestGetRight(t *testing.T) {
	for _, v := range rightOnes() {
		for _, behind := range []string{"", "x", "\x00", "\x80", "\xff\xff\xff", "\x01\x02\x03\x04\x05", strings.Repeat("\xff", 40)} {
			got, r := Get(pack.Reader{Rest: Put(v) + behind})
			if got != v || r != (pack.Reader{Rest: behind}) || r.Done() != (behind == "") {
				t.Errorf("of %v, with %x behind it: %v, and %#v", v, behind, got, r)
			}
		}
	}
}

// TestGetInOrder (P6.2): several that were put one behind the other, with other things between them.
func TestGetInOrder(t *testing.T) {
	var all strings.Builder
	for i, v := range rightOnes() {
		all.WriteString(Put(v) + pack.Text(strconv.Itoa(i)))
	}
	r := pack.Reader{Rest: all.String()}
	for i, v := range rightOnes() {
		var got Vec
		var s string
		got, r = Get(r)
		s, r = r.Text(10)
		if got != v || s != strconv.Itoa(i) || r.Bad {
			t.Fatalf("at %d: %v, %q, bad %v; want %v", i, got, s, r.Bad, v)
		}
	}
	if !r.Done() {
		t.Errorf("behind all: %d bytes", len(r.Rest))
	}
}

// TestGetCut (P6.2): bytes that are cut at each place, of none too.
func TestGetCut(t *testing.T) {
	for _, v := range vectors() {
		whole := Put(v)
		for has := range len(whole) {
			wantBad(t, "cut", pack.Reader{Rest: whole[:has]})
		}
	}
}

// TestGetAbove (P6.2): a number above Most, at whatever place, with the others right, and with something behind it.
func TestGetAbove(t *testing.T) {
	tried := 0
	for _, v := range vectors() {
		if slices.Max(v[:]) <= 1<<60 {
			continue
		}
		tried++
		for _, behind := range []string{"", "x", "\x01\x02\x03\x04"} {
			wantBad(t, "above Most", pack.Reader{Rest: Put(v) + behind})
		}
	}
	if tried < 20 {
		t.Errorf("only %d were tried", tried)
	}
	for place := range api.MaxDCs {
		v := Vec{Most, Most, Most, Most}
		if got, r := Get(pack.Reader{Rest: Put(v)}); got != v || !r.Done() {
			t.Errorf("of Most alone: %v, %#v", got, r)
		}
		v[place] = Most + 1
		wantBad(t, "one above Most", pack.Reader{Rest: Put(v)})
	}
}

// TestGetNoVary (P6.2): a number that is not in as few bytes as it needs, or that no 64 bits hold, at whatever place.
func TestGetNoVary(t *testing.T) {
	wrong := []string{"\x80\x00", "\x81\x00", "\xff\x00", "\x80\x80\x00", "\xac\x82\x00", "\x80\x80\x80\x80\x80\x80\x80\x80\x90\x00",
		"\xff\xff\xff\xff\xff\xff\xff\xff\xff\x02", "\x80\x80\x80\x80\x80\x80\x80\x80\x80\x02", "\xff\xff\xff\xff\xff\xff\xff\xff\xff\x81\x00", strings.Repeat("\x80", 30) + "\x01"}
	for _, one := range wrong {
		for place := range api.MaxDCs {
			parts := []string{"\x01", "\x02", "\x03", "\x04"}
			parts[place] = one
			for _, behind := range []string{"", "\x05\x06\x07\x08"} {
				wantBad(t, "no Vary", pack.Reader{Rest: strings.Join(parts, "") + behind})
			}
		}
	}
}

// TestGetBad (P6.2): of a reader that was Bad already there is none, whatever stands in it; so behind a Get that was refused.
func TestGetBad(t *testing.T) {
	for _, rest := range []string{"", "\x00", "\x80", "\x01\x02\x03\x04", Put(Vec{Most, 1, 0, 300}) + "x", strings.Repeat("\x01", 100)} {
		wantBad(t, "Bad already", pack.Reader{Rest: rest, Bad: true})
	}
	_, r := Get(pack.Reader{Rest: Put(Vec{0, Most + 1, 0, 0}) + "\x01\x02\x03\x04"})
	wantBad(t, "once refused", r)
	_, r = Get(r)
	wantBad(t, "twice refused", r)
}

// TestGetShort (P6.2): each text of five bytes of some: what is told is put so, and where nothing is told nothing was put so.
func TestGetShort(t *testing.T) {
	some := []byte{0, 1, 127, 128, 255}
	var text [5]byte
	for i := range 5 * 5 * 5 * 5 * 5 {
		for j, rest := 0, i; j < len(text); j, rest = j+1, rest/5 {
			text[j] = some[rest%5]
		}
		s := string(text[:])
		v, r := Get(pack.Reader{Rest: s})
		if want, has := byLibrary(s); has {
			if v != want || r.Bad || Put(v)+r.Rest != s {
				t.Errorf("of %x: %v, %#v; want %v", s, v, r, want)
			}
		} else {
			wantBad(t, "as the library tells", pack.Reader{Rest: s})
		}
	}
}

// byLibrary is the vector that s begins with, its numbers as the library reads them, and put again to the same bytes.
func byLibrary(s string) (v Vec, has bool) {
	rest, again := []byte(s), []byte(nil)
	for i := range v {
		n, size := binary.Uvarint(rest)
		if size <= 0 || n > 1<<60 {
			return Vec{}, false
		}
		v[i], rest, again = n, rest[size:], binary.AppendUvarint(again, n)
	}
	return v, strings.HasPrefix(s, string(again))
}

// TestGetLeavesItsReader (P3): who gets off a reader leaves it as it was.
func TestGetLeavesItsReader(t *testing.T) {
	r := pack.Reader{Rest: "\x01\x02\x03\x04\x05"}
	Get(r)
	if got, behind := Get(r); r != (pack.Reader{Rest: "\x01\x02\x03\x04\x05"}) || got != (Vec{1, 2, 3, 4}) || behind != (pack.Reader{Rest: "\x05"}) {
		t.Errorf("the reader is %#v; got off it: %v, %#v", r, got, behind)
	}
}

// TestText (P6.2): the chapter's example, and others, the greatest number of all too.
func TestText(t *testing.T) {
	known := []struct {
		v    Vec
		want string
	}{
		{Vec{}, "0,0,0,0"}, // the chapter's example
		{Vec{1, 2, 3, 4}, "1,2,3,4"},
		{Vec{10, 200, 0, 4000}, "10,200,0,4000"},
		{Vec{0, 127, 128, 1 << 60}, "0,127,128,1152921504606846976"},
		{Vec{1<<60 + 1, 0, 0, 9}, "1152921504606846977,0,0,9"},
		{Vec{1 << 63, 1<<63 - 1, 0, 0}, "9223372036854775808,9223372036854775807,0,0"},
		{Vec{math.MaxUint64, 0, 0, math.MaxUint64}, "18446744073709551615,0,0,18446744073709551615"},
	}
	for _, k := range known {
		if got := Text(k.v); got != k.want {
			t.Errorf("Text(%v) = %q, want %q", [4]uint64(k.v), got, k.want)
		}
	}
	for _, v := range vectors() {
		parts := strings.Split(Text(v), ",")
		if len(parts) != api.MaxDCs {
			t.Fatalf("Text(%v) = %q", v, Text(v))
		}
		for i, part := range parts {
			if want := new(big.Int).SetUint64(v[i]).String(); part != want {
				t.Errorf("Text(%v) has %q, want %q", v, part, want)
			}
		}
	}
}

// TestWhateverOrder (P6.3): joins and meets of three come to the same in each order, and grouped either way; of one with itself to that one.
func TestWhateverOrder(t *testing.T) {
	for _, l := range [][]Vec{few(0, 1), mixed(30, 64), mixed(12, 3), vectors()[:40]} {
		for _, a := range l {
			if Join(a, a) != a || Meet(a, a) != a {
				t.Errorf("%v with itself: %v, %v", a, Join(a, a), Meet(a, a))
			}
			for _, b := range l {
				if Join(a, b) != Join(b, a) || Meet(a, b) != Meet(b, a) {
					t.Errorf("%v and %v, the other way round", a, b)
				}
				if Join(a, Meet(a, b)) != a || Meet(a, Join(a, b)) != a {
					t.Errorf("%v, behind a join and a meet with %v", a, b)
				}
				for _, c := range l {
					if Join(a, Join(b, c)) != Join(Join(a, b), c) || Meet(a, Meet(b, c)) != Meet(Meet(a, b), c) {
						t.Errorf("%v, %v and %v, grouped the other way", a, b, c)
					}
				}
			}
		}
	}
}

// TestAllInWhateverOrder (P6.3): All of each order of five, and with one of them twice.
func TestAllInWhateverOrder(t *testing.T) {
	l := []Vec{{1, 9, 9, 9}, {9, 2, 9, 9}, {9, 9, 3, 9}, {9, 9, 9, 4}, {5, 5, 5, 5}}
	want, orders := Vec{1, 2, 3, 4}, 0
	var swap func(from int)
	swap = func(from int) {
		if from == len(l) {
			orders++
			if got := All(l); got != want {
				t.Errorf("All(%v) = %v", l, got)
			}
			if got := All(append(slices.Clone(l), l[0])); got != want {
				t.Errorf("All(%v), with its first once more = %v", l, got)
			}
			return
		}
		for i := from; i < len(l); i++ {
			l[from], l[i] = l[i], l[from]
			swap(from + 1)
			l[from], l[i] = l[i], l[from]
		}
	}
	swap(0)
	if orders != 120 {
		t.Errorf("%d orders", orders)
	}
}

// TestSumIsLess (P6.3): of two right ones that are not the same, of which one is Leq, its Sum is less.
func TestSumIsLess(t *testing.T) {
	for _, l := range [][]Vec{few(0, 1, 2), few(0, Most-1, Most), rightOnes()} {
		for _, a := range l {
			for _, b := range l {
				if a != b && Leq(a, b) && Sum(a) >= Sum(b) {
					t.Errorf("%v is Leq %v; the sums are %d and %d", a, b, Sum(a), Sum(b))
				}
				if a != b && Leq(a, b) && Leq(b, a) {
					t.Errorf("%v and %v are Leq each other", a, b)
				}
			}
		}
	}
}

// TestNeither (P6.3, P6.1): of two of which neither is Leq the other one, both are Leq the join, the meet is Leq both, and neither of these is one of the two.
func TestNeither(t *testing.T) {
	tried := 0
	for _, l := range [][]Vec{few(0, 1, 2), vectors()} {
		for _, a := range l {
			for _, b := range l {
				if Leq(a, b) || Leq(b, a) {
					continue
				}
				tried++
				join, meet := Join(a, b), Meet(a, b)
				if !Leq(a, join) || !Leq(b, join) || !Leq(meet, a) || !Leq(meet, b) || Leq(join, a) || Leq(join, b) || Leq(a, meet) || Leq(b, meet) {
					t.Errorf("of %v and %v: Join %v, Meet %v", a, b, join, meet)
				}
			}
		}
	}
	if tried < 1000 {
		t.Errorf("only %d were tried", tried)
	}
}

// TestLeavesItsVectors (P3): a vector that is handed in is a value: it is as it was behind each call.
func TestLeavesItsVectors(t *testing.T) {
	a, b := Vec{1, 5, 0, 2}, Vec{3, 4, 0, 2}
	Right(a)
	Leq(a, b)
	join := Join(a, b)
	join[0] = 99
	meet := Meet(a, b)
	meet[1] = 99
	With(a, 1, 77)
	with := With(a, 9, 77)
	with[2] = 99
	At(a, 2)
	Sum(a)
	Put(a)
	Text(a)
	if a != (Vec{1, 5, 0, 2}) || b != (Vec{3, 4, 0, 2}) {
		t.Error(a, b)
	}
}
