package stamp

import (
	"encoding/binary"
	"math"
	"math/big"
	"slices"
	"strconv"
	"strings"
	"testing"

	"tenement/api"
	"tenement/pack"
	"tenement/vec"
)

// numbers: nothing, on both sides of where a Vary grows, Most, and on both sides of it, and of half and all of 64 bits.
func numbers() []uint64 {
	return []uint64{0, 1, 2, 127, 128, 300, 16384, vec.Most - 1, vec.Most, vec.Most + 1, 1<<63 - 1, 1 << 63, math.MaxUint64 - 1, math.MaxUint64}
}

// wrongDCs are not 1 to MaxDCs; some of them would be right in fewer bits.
func wrongDCs() []int {
	return []int{0, -1, -2, -3, -4, -5, 5, 6, 7, 8, 64, 127, 128, 255, 256, 257, 260, 1 << 16, 1<<16 + 1, 1<<32 + 1, 1<<32 + 4, -1<<32 + 1,
		math.MaxInt32, math.MinInt32, math.MaxInt, math.MaxInt - 1, math.MinInt, math.MinInt + 1, math.MinInt + 4}
}

// few: stamps of every four of some numbers, at each datacenter, right or not.
func few(some ...uint64) []Stamp {
	var out []Stamp
	for _, a := range some {
		for _, b := range some {
			for _, c := range some {
				for _, d := range some {
					for dc := 1; dc <= api.MaxDCs; dc++ {
						out = append(out, Stamp{vec.Vec{a, b, c, d}, dc})
					}
				}
			}
		}
	}
	return out
}

// stamps: ordinary ones, one of each number at each place, of each datacenter and of none, among zeros and among others, right or not.
func stamps() []Stamp {
	var out []Stamp
	for _, n := range numbers() {
		for place := range api.MaxDCs {
			alone, among := vec.Vec{}, vec.Vec{11, 222, 3333, 44444}
			alone[place], among[place] = n, n
			for _, dc := range []int{1, 2, 3, 4, 0, 5, math.MinInt, math.MaxInt} {
				out = append(out, Stamp{alone, dc}, Stamp{among, dc})
			}
		}
	}
	return out
}

// isRight: as the chapter says it, asked by hand.
func isRight(s Stamp) bool {
	return s.DC >= 1 && s.DC <= 4 && s.Vec[s.DC-1] >= 1 && slices.Max(s.Vec[:]) <= 1<<60
}

// rightOnes: those of l that are right.
func rightOnes(l []Stamp) []Stamp {
	return slices.DeleteFunc(slices.Clone(l), func(s Stamp) bool { return !isRight(s) })
}

// wantBad: behind what could not be got is no stamp, and a Bad reader with nothing in it.
func wantBad(t *testing.T, what string, r pack.Reader) {
	t.Helper()
	if s, behind := Get(r); s != (Stamp{}) || behind != (pack.Reader{Bad: true}) {
		t.Errorf("%s: Get(%#v) = %v, and behind it %#v; want no stamp, and a Bad one", what, r, s, behind)
	}
}

// bytesOf: what Put would put, were s right: by the library's numbers.
func bytesOf(s Stamp) string {
	out := []byte{byte(s.DC)}
	for _, n := range s.Vec {
		out = binary.AppendUvarint(out, n)
	}
	return string(out)
}

// TestRightKnown (P7.1): the edges of the datacenter, of the number there, and of the vector.
func TestRightKnown(t *testing.T) {
	known := []struct {
		s    Stamp
		want bool
	}{
		{Stamp{}, false},
		{Stamp{vec.Vec{1, 0, 0, 0}, 1}, true},
		{Stamp{vec.Vec{0, 0, 0, 1}, 4}, true},
		{Stamp{vec.Vec{3, 1, 4, 1}, 3}, true},
		{Stamp{vec.Vec{1, 1, 1, 1}, 0}, false},
		{Stamp{vec.Vec{1, 1, 1, 1}, 1}, true},
		{Stamp{vec.Vec{1, 1, 1, 1}, api.MaxDCs}, true},
		{Stamp{vec.Vec{1, 1, 1, 1}, api.MaxDCs + 1}, false},
		{Stamp{vec.Vec{1, 1, 1, 1}, -1}, false},
		{Stamp{vec.Vec{1, 1, 1, 1}, math.MinInt}, false},
		{Stamp{vec.Vec{1, 1, 1, 1}, math.MaxInt}, false},
		{Stamp{vec.Vec{1, 1, 1, 1}, 257}, false},
		{Stamp{vec.Vec{0, 9, 9, 9}, 1}, false},
		{Stamp{vec.Vec{9, 0, 9, 9}, 2}, false},
		{Stamp{vec.Vec{9, 9, 0, 9}, 3}, false},
		{Stamp{vec.Vec{9, 9, 9, 0}, 4}, false},
		{Stamp{vec.Vec{1 << 60, 1 << 60, 1 << 60, 1 << 60}, 2}, true},
		{Stamp{vec.Vec{1<<60 + 1, 1, 1, 1}, 1}, false},
		{Stamp{vec.Vec{1<<60 + 1, 1, 1, 1}, 4}, false},
		{Stamp{vec.Vec{1, 1, 1, 1<<60 + 1}, 1}, false},
		{Stamp{vec.Vec{1, 1, math.MaxUint64, 1}, 3}, false},
	}
	for _, k := range known {
		if got := Right(k.s); got != k.want {
			t.Errorf("Right(%v) = %v", k.s, got)
		}
	}
}

// TestRight (P7.1): of all that are tried, as the chapter says it.
func TestRight(t *testing.T) {
	for _, l := range [][]Stamp{few(0, 1, vec.Most, vec.Most+1), stamps()} {
		for _, s := range l {
			if got := Right(s); got != isRight(s) {
				t.Errorf("Right(%v) = %v", s, got)
			}
		}
	}
}

// TestN (P7.1): the number of the stamp's own datacenter, right or not; 0, if it is none.
func TestN(t *testing.T) {
	for i, want := range []uint64{0, 8, 5, 7, 2, 0} {
		if got := (Stamp{vec.Vec{8, 5, 7, 2}, i}).N(); got != want {
			t.Errorf("N at %d = %d, want %d", i, got, want)
		}
	}
	for _, n := range numbers() {
		for place := range api.MaxDCs {
			v := vec.Vec{3, 3, 3, 3}
			v[place] = n
			if got := (Stamp{v, place + 1}).N(); got != n {
				t.Errorf("N of %v at %d = %d", v, place+1, got)
			}
		}
		for _, dc := range wrongDCs() {
			if got := (Stamp{vec.Vec{n, n, n, n}, dc}).N(); got != 0 {
				t.Errorf("N at %d = %d", dc, got)
			}
		}
	}
}

// TestWrongDC (P7.1, P7.2, P6): with a datacenter that is none nothing is right, and nothing is put; it is told all the same.
func TestWrongDC(t *testing.T) {
	for _, dc := range wrongDCs() {
		s := Stamp{vec.Vec{1, 2, 3, 4}, dc}
		if put, ok := Put(s); Right(s) || put != "" || ok {
			t.Errorf("%v: right %v; put %x, %v", s, Right(s), put, ok)
		}
		if got, want := Text(s), big.NewInt(int64(dc)).String()+"@1,2,3,4"; got != want {
			t.Errorf("Text(%v) = %q, want %q", s, got, want)
		}
		if !Seen(s, vec.Vec{1, 2, 3, 4}) || Seen(s, vec.Vec{1, 2, 3, 3}) {
			t.Errorf("Seen of %v", s)
		}
	}
}

// inOrder: each over the one ahead of it: by the sum, then by the datacenter, then by the numbers.
func inOrder() []Stamp {
	return []Stamp{
		{vec.Vec{}, math.MinInt},
		{vec.Vec{}, -1},
		{vec.Vec{math.MaxUint64, 1, 0, 0}, -1}, // the sum goes round to 0
		{vec.Vec{}, 0},
		{vec.Vec{0, 0, 1, math.MaxUint64}, 1},
		{vec.Vec{1 << 63, 1 << 63, 0, 0}, 1},
		{vec.Vec{1 << 63, 1 << 63, 1 << 63, 1 << 63}, 1},
		{vec.Vec{0, 0, 2, math.MaxUint64}, 1}, // the sum goes round to 1
		{vec.Vec{1, 0, 0, 0}, 1},
		{vec.Vec{math.MaxUint64, 2, 0, 0}, 1},
		{vec.Vec{0, 1, 0, 0}, 2},
		{vec.Vec{0, 0, 1, 0}, 3},
		{vec.Vec{0, 0, 0, 1}, 4},
		{vec.Vec{0, 0, 0, 1}, 5},
		{vec.Vec{0, 0, 0, 1}, math.MaxInt},
		{vec.Vec{1, 0, 0, 2}, 1},
		{vec.Vec{1, 0, 1, 1}, 1},
		{vec.Vec{1, 0, 2, 0}, 1},
		{vec.Vec{1, 1, 0, 1}, 1},
		{vec.Vec{1, 1, 1, 0}, 1},
		{vec.Vec{1, 2, 0, 0}, 1},
		{vec.Vec{3, 0, 0, 0}, 1},
		{vec.Vec{0, 2, 1, 0}, 2},
		{vec.Vec{2, 1, 0, 0}, 2},
		{vec.Vec{0, 0, 0, 3}, 4},
		{vec.Vec{4, 0, 0, 0}, 1},
		{vec.Vec{vec.Most, 0, 0, 0}, 1},
		{vec.Vec{0, vec.Most, 0, 0}, 2},
		{vec.Vec{vec.Most + 1, 0, 0, 0}, 1},
		{vec.Vec{vec.Most, vec.Most, vec.Most, vec.Most}, 1},
		{vec.Vec{vec.Most, vec.Most, vec.Most, vec.Most}, 4},
		{vec.Vec{1<<63 - 1, 0, 0, 0}, 1},
		{vec.Vec{0, 1 << 63, 0, 0}, 1},
		{vec.Vec{1 << 63, 0, 0, 0}, 1},
		{vec.Vec{math.MaxUint64, math.MaxUint64, math.MaxUint64, math.MaxUint64}, 1},
		{vec.Vec{0, 0, 0, math.MaxUint64}, 1},
		{vec.Vec{0, math.MaxUint64, 0, 0}, 1},
		{vec.Vec{math.MaxUint64, 0, 0, 0}, 1},
	}
}

// TestOrderKnown (P7.1): each two of a list whose order is written out, and each with itself; Later is the one behind.
func TestOrderKnown(t *testing.T) {
	l := inOrder()
	for i, a := range l {
		for k, b := range l {
			want, last := 0, a
			if i < k {
				want, last = -1, b
			} else if i > k {
				want = 1
			}
			if got := Order(a, b); got != want {
				t.Errorf("Order(%v, %v) = %d, want %d", a, b, got, want)
			}
			if got := Later(a, b); got != last {
				t.Errorf("Later(%v, %v) = %v, want %v", a, b, got, last)
			}
		}
	}
}

// orderByKeys: the sum modulo 2^64, the datacenter and the numbers, as the library's great numbers, one behind the other.
func orderByKeys(a, b Stamp) int {
	keys := func(s Stamp) []*big.Int {
		sum := new(big.Int)
		for _, n := range s.Vec {
			sum.Add(sum, new(big.Int).SetUint64(n))
		}
		out := []*big.Int{sum.Mod(sum, new(big.Int).Lsh(big.NewInt(1), 64)), big.NewInt(int64(s.DC))}
		for _, n := range s.Vec {
			out = append(out, new(big.Int).SetUint64(n))
		}
		return out
	}
	return slices.CompareFunc(keys(a), keys(b), (*big.Int).Cmp)
}

// TestOrder (P7.1): of each two of few numbers, and of some of the edges with one another; Later is the one that is over.
func TestOrder(t *testing.T) {
	var edges []Stamp
	for i, s := range stamps() {
		if i%3 == 0 {
			edges = append(edges, s)
		}
	}
	for _, l := range [][]Stamp{few(0, 1), few(1, math.MaxUint64), edges} {
		for _, a := range l {
			for _, b := range l {
				want, last := orderByKeys(a, b), b
				if want > 0 {
					last = a
				}
				if got := Order(a, b); got != want {
					t.Errorf("Order(%v, %v) = %d, want %d", a, b, got, want)
				}
				if got := Later(a, b); got != last {
					t.Errorf("Later(%v, %v) = %v, want %v", a, b, got, last)
				}
			}
		}
	}
}

// TestSeenKnown (P7.1): the chapter's example, the same vector, more and less at one place; neither of two; it hangs on no datacenter.
func TestSeenKnown(t *testing.T) {
	known := []struct {
		v, at vec.Vec
		want  bool
	}{
		{vec.Vec{}, vec.Vec{}, true}, // the chapter's example
		{vec.Vec{}, vec.Vec{0, 0, 0, 1}, true},
		{vec.Vec{0, 0, 0, 1}, vec.Vec{}, false},
		{vec.Vec{1, 2, 3, 4}, vec.Vec{1, 2, 3, 4}, true},
		{vec.Vec{1, 2, 3, 4}, vec.Vec{9, 9, 9, 9}, true},
		{vec.Vec{1, 2, 3, 4}, vec.Vec{0, 9, 9, 9}, false},
		{vec.Vec{1, 2, 3, 4}, vec.Vec{9, 1, 9, 9}, false},
		{vec.Vec{1, 2, 3, 4}, vec.Vec{9, 9, 2, 9}, false},
		{vec.Vec{1, 2, 3, 4}, vec.Vec{9, 9, 9, 3}, false},
		{vec.Vec{1, 5, 0, 2}, vec.Vec{3, 4, 0, 2}, false},
		{vec.Vec{3, 4, 0, 2}, vec.Vec{1, 5, 0, 2}, false},
		{vec.Vec{vec.Most, 0, 0, 0}, vec.Vec{vec.Most, 0, 0, 0}, true},
		{vec.Vec{vec.Most + 1, 0, 0, 0}, vec.Vec{vec.Most, 0, 0, 0}, false},
		{vec.Vec{0, 1 << 63, 0, 0}, vec.Vec{0, 1<<63 - 1, 0, 0}, false},
		{vec.Vec{0, 0, 0, math.MaxUint64}, vec.Vec{0, 0, 0, math.MaxUint64}, true},
		{vec.Vec{0, 0, 0, math.MaxUint64}, vec.Vec{1, 1, 1, 1}, false},
	}
	for _, k := range known {
		for _, dc := range append(wrongDCs(), 1, 2, 3, 4) {
			if got := Seen(Stamp{k.v, dc}, k.at); got != k.want {
				t.Errorf("Seen of %v at %d, at %v = %v", k.v, dc, k.at, got)
			}
		}
	}
}

// TestSeen (P7.1): each number at most that of the snapshot, place by place.
func TestSeen(t *testing.T) {
	for _, l := range [][]Stamp{few(0, 1), few(0, vec.Most, vec.Most+1)[:200], stamps()[:300]} {
		for _, s := range l {
			for _, other := range l {
				v, at := s.Vec, other.Vec
				want := v[0] <= at[0] && v[1] <= at[1] && v[2] <= at[2] && v[3] <= at[3]
				if got := Seen(s, at); got != want {
					t.Errorf("Seen(%v, %v) = %v", s, at, got)
				}
			}
		}
	}
}

// TestPutKnown (P7.2): a byte of DC, and Vary of each number; nothing, and false, of one that is not right.
func TestPutKnown(t *testing.T) {
	known := []struct {
		s    Stamp
		want string
	}{
		{Stamp{vec.Vec{1, 0, 0, 0}, 1}, "\x01\x01\x00\x00\x00"},
		{Stamp{vec.Vec{1, 2, 3, 4}, 2}, "\x02\x01\x02\x03\x04"},
		{Stamp{vec.Vec{300, 0, 127, 128}, 3}, "\x03\xac\x02\x00\x7f\x80\x01"},
		{Stamp{vec.Vec{0, 0, 0, 1 << 60}, 4}, "\x04\x00\x00\x00\x80\x80\x80\x80\x80\x80\x80\x80\x10"},
	}
	for _, k := range known {
		if got, ok := Put(k.s); got != k.want || !ok {
			t.Errorf("Put(%v) = %x, %v; want %x", k.s, got, ok, k.want)
		}
	}
	wrong := []Stamp{{}, {vec.Vec{0, 1, 1, 1}, 1}, {vec.Vec{1, 1, 1, 0}, 4}, {vec.Vec{1, 1, 1, 1}, 0}, {vec.Vec{1, 1, 1, 1}, 5}, {vec.Vec{1, 1, 1, 1}, 257},
		{vec.Vec{1, 1, 1, 1}, math.MinInt}, {vec.Vec{1, 1, 1, 1}, math.MaxInt}, {vec.Vec{1, vec.Most + 1, 0, 0}, 1}, {vec.Vec{math.MaxUint64, 0, 0, 0}, 1}}
	for _, s := range wrong {
		if got, ok := Put(s); got != "" || ok {
			t.Errorf("Put(%v) = %x, %v", s, got, ok)
		}
	}
}

// TestPut (P7.2): of all that are tried, by the library's numbers.
func TestPut(t *testing.T) {
	for _, l := range [][]Stamp{few(0, 1, vec.Most, vec.Most+1), stamps()} {
		for _, s := range l {
			want := ""
			if isRight(s) {
				want = bytesOf(s)
			}
			if got, ok := Put(s); got != want || ok != isRight(s) {
				t.Errorf("Put(%v) = %x, %v; want %x", s, got, ok, want)
			}
		}
	}
}

// TestGetRight (P7.2): a right stamp is got as it was put; what stands behind it stays, and where nothing does the reader is Done.
func TestGetRight(t *testing.T) {
	for _, s := range append(rightOnes(stamps()), rightOnes(few(0, 1, vec.Most))...) {
		put, _ := Put(s)
		for _, behind := range []string{"", "x", "\x00", "\x80", "\xff\xff\xff", "\x01\x02\x03\x04\x05", strings.Repeat("\xff", 40)} {
			got, r := Get(pack.Reader{Rest: put + behind})
			if got != s || r != (pack.Reader{Rest: behind}) || r.Done() != (behind == "") {
				t.Errorf("of %v, with %x behind it: %v, and %#v", s, behind, got, r)
			}
		}
	}
}

// TestGetInOrder (P7.2): several that were put one behind the other, with other things between them.
func TestGetInOrder(t *testing.T) {
	var all strings.Builder
	l := rightOnes(stamps())
	for i, s := range l {
		put, _ := Put(s)
		all.WriteString(put + pack.Text(strconv.Itoa(i)))
	}
	r := pack.Reader{Rest: all.String()}
	for i, s := range l {
		var got Stamp
		var text string
		got, r = Get(r)
		text, r = r.Text(10)
		if got != s || text != strconv.Itoa(i) || r.Bad {
			t.Fatalf("at %d: %v, %q, bad %v; want %v", i, got, text, r.Bad, s)
		}
	}
	if !r.Done() {
		t.Errorf("behind all: %d bytes", len(r.Rest))
	}
}

// TestGetCut (P7.2): bytes that are cut at each place, of none too.
func TestGetCut(t *testing.T) {
	for _, s := range rightOnes(stamps()) {
		whole, _ := Put(s)
		for has := range len(whole) {
			wantBad(t, "cut", pack.Reader{Rest: whole[:has]})
		}
	}
}

// TestGetNoDC (P7.2): each byte ahead of a vector that would be right with whatever datacenter; those of 1 to MaxDCs alone are got.
func TestGetNoDC(t *testing.T) {
	for b := range 256 {
		r := pack.Reader{Rest: string([]byte{byte(b)}) + vec.Put(vec.Vec{1, 2, 300, 4}) + "x"}
		if b < 1 || b > 4 {
			wantBad(t, "no datacenter", r)
			continue
		}
		if got, behind := Get(r); got != (Stamp{vec.Vec{1, 2, 300, 4}, b}) || behind != (pack.Reader{Rest: "x"}) {
			t.Errorf("of byte %d: %v, %#v", b, got, behind)
		}
	}
}

// TestGetWrong (P7.2): the bytes of a stamp that is not right: no number of its own, or a number above Most, at whatever place.
func TestGetWrong(t *testing.T) {
	tried := 0
	for _, l := range [][]Stamp{few(0, 1, vec.Most, vec.Most+1), stamps()} {
		for _, s := range l {
			if isRight(s) || s.DC < 1 || s.DC > 4 {
				continue
			}
			tried++
			for _, behind := range []string{"", "x", "\x01\x01\x00\x00\x00"} {
				wantBad(t, "not right", pack.Reader{Rest: bytesOf(s) + behind})
			}
		}
	}
	if tried < 500 {
		t.Errorf("only %d were tried", tried)
	}
}

// TestGetNoVary (P7.2): a number that is not in as few bytes as it needs, or that no 64 bits hold, at whatever place.
func TestGetNoVary(t *testing.T) {
	wrong := []string{"\x80\x00", "\x81\x00", "\xac\x82\x00", "\xff\xff\xff\xff\xff\xff\xff\xff\xff\x02", "\x80\x80\x80\x80\x80\x80\x80\x80\x80\x02", strings.Repeat("\x80", 30) + "\x01"}
	for _, one := range wrong {
		for place := range api.MaxDCs {
			parts := []string{"\x01", "\x02", "\x03", "\x04"}
			parts[place] = one
			for dc := range api.MaxDCs {
				wantBad(t, "no Vary", pack.Reader{Rest: string([]byte{byte(dc + 1)}) + strings.Join(parts, "") + "\x05\x06\x07\x08"})
			}
		}
	}
}

// TestGetBad (P7.2): of a reader that was Bad already there is none, whatever stands in it; so behind a Get that was refused.
func TestGetBad(t *testing.T) {
	for _, rest := range []string{"", "\x01", "\x80", "\x01\x01\x00\x00\x00", "\x04\x01\x02\x03\x04x", strings.Repeat("\x01", 100)} {
		wantBad(t, "Bad already", pack.Reader{Rest: rest, Bad: true})
	}
	_, r := Get(pack.Reader{Rest: "\x05\x01\x01\x01\x01" + "\x01\x01\x01\x01\x01"})
	wantBad(t, "once refused", r)
	_, r = Get(r)
	wantBad(t, "twice refused", r)
}

// TestGetShort (P7.2): each text of six bytes of some: what is got is put so, and where nothing is got nothing is put so.
func TestGetShort(t *testing.T) {
	some := []byte{0, 1, 4, 5, 128}
	var text [6]byte
	for i := range 5 * 5 * 5 * 5 * 5 * 5 {
		for j, rest := 0, i; j < len(text); j, rest = j+1, rest/5 {
			text[j] = some[rest%5]
		}
		s := string(text[:])
		want, has := byLibrary(s)
		if !has {
			wantBad(t, "as the library tells", pack.Reader{Rest: s})
			continue
		}
		got, r := Get(pack.Reader{Rest: s})
		if put, ok := Put(got); got != want || r.Bad || !ok || put+r.Rest != s {
			t.Errorf("of %x: %v, %#v; want %v", s, got, r, want)
		}
	}
}

// byLibrary is the right stamp that text begins with, its numbers as the library reads them, and put again to the same bytes.
func byLibrary(text string) (s Stamp, has bool) {
	s.DC = int(text[0])
	rest := []byte(text[1:])
	for i := range s.Vec {
		n, size := binary.Uvarint(rest)
		if size <= 0 {
			return Stamp{}, false
		}
		s.Vec[i], rest = n, rest[size:]
	}
	return s, isRight(s) && strings.HasPrefix(text, bytesOf(s))
}

// TestGetLeavesItsReader (P3): who gets off a reader leaves it as it was.
func TestGetLeavesItsReader(t *testing.T) {
	r := pack.Reader{Rest: "\x02\x01\x02\x03\x04\x05"}
	Get(r)
	if got, behind := Get(r); r != (pack.Reader{Rest: "\x02\x01\x02\x03\x04\x05"}) || got != (Stamp{vec.Vec{1, 2, 3, 4}, 2}) || behind != (pack.Reader{Rest: "\x05"}) {
		t.Errorf("the reader is %#v; got off it: %v, %#v", r, got, behind)
	}
}

// TestText (P7.2): right ones, and such as are not, with the least and the greatest int and number.
func TestText(t *testing.T) {
	known := []struct {
		s    Stamp
		want string
	}{
		{Stamp{}, "0@0,0,0,0"},
		{Stamp{vec.Vec{1, 0, 0, 0}, 1}, "1@1,0,0,0"},
		{Stamp{vec.Vec{10, 200, 0, 4000}, 4}, "4@10,200,0,4000"},
		{Stamp{vec.Vec{0, 0, 1 << 60, 0}, 3}, "3@0,0,1152921504606846976,0"},
		{Stamp{vec.Vec{1<<60 + 1, 0, 0, 0}, 5}, "5@1152921504606846977,0,0,0"},
		{Stamp{vec.Vec{1, 2, 3, 4}, -2}, "-2@1,2,3,4"},
		{Stamp{vec.Vec{1, 2, 3, 4}, 10}, "10@1,2,3,4"},
		{Stamp{vec.Vec{1, 2, 3, 4}, -257}, "-257@1,2,3,4"},
		{Stamp{vec.Vec{0, 0, 0, math.MaxUint64}, math.MaxInt}, "9223372036854775807@0,0,0,18446744073709551615"},
		{Stamp{vec.Vec{1 << 63, 0, 0, 0}, math.MinInt}, "-9223372036854775808@9223372036854775808,0,0,0"},
	}
	for _, k := range known {
		if got := Text(k.s); got != k.want {
			t.Errorf("Text(%v) = %q, want %q", k.s, got, k.want)
		}
	}
}

// TestSeenIsNotOver (P7.3): of right ones, what one has seen is not over it. Two of one vector and two datacenters, which no two transactions have, go by the datacenter, as P7.1 says.
func TestSeenIsNotOver(t *testing.T) {
	seen := 0
	for _, l := range [][]Stamp{few(0, 1, 2), few(0, vec.Most-1, vec.Most), stamps()} {
		right := rightOnes(l)
		for _, a := range right {
			for _, b := range right {
				if !Seen(a, b.Vec) {
					continue
				}
				seen++
				if a.Vec != b.Vec && (Order(a, b) != -1 || Later(a, b) != b || Later(b, a) != b) {
					t.Errorf("%v is seen by %v, and is over it", a, b)
				}
				if a.Vec == b.Vec && a.DC <= b.DC && Order(a, b) > 0 {
					t.Errorf("%v is over %v", a, b)
				}
			}
		}
	}
	if seen < 1000 {
		t.Errorf("only %d were tried", seen)
	}
}

// TestNeitherSeen (P7.3, P7.1): of two of which neither has seen the other one, one alone is over the other one, whichever is asked first.
func TestNeitherSeen(t *testing.T) {
	a, b := Stamp{vec.Vec{5, 0, 0, 1}, 1}, Stamp{vec.Vec{0, 6, 0, 0}, 2}
	if Seen(a, b.Vec) || Seen(b, a.Vec) || Order(a, b) != -1 || Order(b, a) != 1 || Later(a, b) != b || Later(b, a) != b {
		t.Errorf("%v and %v: %d, %d, %v, %v", a, b, Order(a, b), Order(b, a), Later(a, b), Later(b, a))
	}
	tried := 0
	for _, l := range [][]Stamp{few(0, 1, 2), stamps()[:300]} {
		for _, a := range l {
			for _, b := range l {
				if Seen(a, b.Vec) || Seen(b, a.Vec) {
					continue
				}
				tried++
				if Order(a, b) == 0 || Order(a, b) != -Order(b, a) || Later(a, b) != Later(b, a) {
					t.Errorf("%v and %v: %d, %d, %v, %v", a, b, Order(a, b), Order(b, a), Later(a, b), Later(b, a))
				}
			}
		}
	}
	if tried < 1000 {
		t.Errorf("only %d were tried", tried)
	}
}

// TestLaterGrouped (P7.3): the later of three, grouped either way and begun with either, is the same, and is one of them.
func TestLaterGrouped(t *testing.T) {
	var some []Stamp
	for i, s := range stamps() {
		if i%17 == 0 {
			some = append(some, s)
		}
	}
	for _, l := range [][]Stamp{inOrder(), few(0, 1), some} {
		for _, a := range l {
			if Later(a, a) != a || Order(a, a) != 0 {
				t.Errorf("%v with itself: %v, %d", a, Later(a, a), Order(a, a))
			}
			for _, b := range l {
				if got := Later(a, b); got != Later(b, a) || got != a && got != b {
					t.Errorf("of %v and %v: %v", a, b, got)
				}
				for _, c := range l {
					if got := Later(a, Later(b, c)); got != Later(Later(a, b), c) || got != Later(Later(c, a), b) {
						t.Errorf("of %v, %v and %v: %v", a, b, c, got)
					}
				}
			}
		}
	}
}

// TestLaterInWhateverOrder (P7.3): the later of five, in each order of them, one behind the other.
func TestLaterInWhateverOrder(t *testing.T) {
	l := []Stamp{{vec.Vec{1, 2, 0, 0}, 1}, {vec.Vec{0, 1, 2, 0}, 2}, {vec.Vec{0, 1, 2, 0}, 3}, {vec.Vec{1, 1, 1, 0}, 3}, {vec.Vec{0, 0, 0, 2}, 4}}
	want, orders := Stamp{vec.Vec{1, 1, 1, 0}, 3}, 0
	var swap func(from int)
	swap = func(from int) {
		if from == len(l) {
			orders++
			last := l[0]
			for _, s := range l[1:] {
				last = Later(last, s)
			}
			if last != want {
				t.Errorf("the later of %v is %v", l, last)
			}
			return
		}
		for i := from; i < len(l); i++ {
			l[from], l[i] = l[i], l[from]
			swap(from + 1)
			l[from], l[i] = l[i], l[from]
		}
	}
	swap(0)
	if orders != 120 {
		t.Errorf("%d orders", orders)
	}
}
