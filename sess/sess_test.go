package sess

import (
	"math"
	"math/rand"
	"reflect"
	"slices"
	"strconv"
	"strings"
	"testing"
	"unsafe"

	"tenement/api"
	"tenement/item"
	"tenement/vec"
)

// top is the greatest number that is right.
const top = 1 << 60

// highest is the greatest vector that is right.
var highest = vec.Vec{top, top, top, top}

// ends is a vector that is right nowhere: what is told of it shows it whole.
var ends = vec.Vec{math.MaxUint64, math.MaxUint64, math.MaxUint64, math.MaxUint64}

// w writes a key of bucket b.
func w(key, value string) item.Write {
	return item.Write{Bucket: "b", Key: key, Value: value}
}

// gone is a key of bucket b that goes.
func gone(key string) item.Write {
	return item.Write{Bucket: "b", Key: key, Gone: true}
}

// noIDs: below 1, above 8, at the ends of 64 bits, and such as come to a session's number in 8, 16 or 32 bits.
func noIDs() []int {
	return []int{
		0, -1, -2, -7, -8, -9, 9, 10, 16, 17, 1<<8 + 1, 1<<8 + 8, 1<<16 + 1, 1<<32 + 1, 1<<32 + 8, -1<<8 + 1, -1<<32 + 1, -1<<32 + 8,
		math.MinInt, math.MinInt + 1, math.MinInt + 8, math.MaxInt - 7, math.MaxInt - 1, math.MaxInt,
	}
}

// wrongVecs: not right by one number, at each place, or by all.
func wrongVecs() []vec.Vec {
	l := []vec.Vec{ends, {top + 1, top + 1, top + 1, top + 1}}
	for place := range 4 {
		for _, n := range []uint64{top + 1, top + 2, 1 << 61, 1 << 63, math.MaxUint64} {
			v := vec.Vec{1, 2, 3, 4}
			v[place] = n
			l = append(l, v)
		}
	}
	return l
}

// wrongWrites: not right by one thing, or by several.
func wrongWrites() []item.Write {
	long := strings.Repeat("x", 17)
	return []item.Write{
		{},
		{Gone: true},
		{Key: "a", Value: "v"},
		{Bucket: "b", Value: "v"},
		{Key: "a", Gone: true},
		{Bucket: "b", Gone: true},
		{Bucket: long, Key: "a", Value: "v"},
		{Bucket: "b", Key: long, Value: "v"},
		{Bucket: "b", Key: long, Gone: true},
		{Bucket: "b", Key: "a", Value: strings.Repeat("v", 33)},
		{Bucket: "b", Key: "a", Value: "v", Gone: true},
		{Bucket: "b", Key: "a", Value: "\x00", Gone: true},
		{Bucket: "b", Key: "a", Value: strings.Repeat("v", 33), Gone: true},
	}
}

// picture is all that a table tells but single keys.
type picture struct {
	seen, at [9]vec.Vec
	open     [9]bool
	writes   [9][]item.Write
	many     int
	horizon  vec.Vec
}

// look is the picture of s; what is told of a session that has none open is looked at on the way.
func look(t *testing.T, s *Table) picture {
	t.Helper()
	p := picture{many: s.Many(), horizon: s.Horizon(ends)}
	for id := 1; id <= 8; id++ {
		p.seen[id] = s.Seen(id)
		p.at[id], p.open[id] = s.Snapshot(id)
		p.writes[id] = append([]item.Write{}, s.Writes(id)...)
		if !p.open[id] && (p.at[id] != vec.Vec{} || len(p.writes[id]) != 0) {
			t.Fatal("none is open", id, p.at[id], p.writes[id])
		}
	}
	return p
}

// wantStays: what do does turns nothing of s.
func wantStays(t *testing.T, what string, s *Table, do func()) {
	t.Helper()
	before := look(t, s)
	do()
	if behind := look(t, s); !reflect.DeepEqual(before, behind) {
		t.Fatalf("%s turned something: %v, behind it %v", what, before, behind)
	}
}

// wantCode: e is want.
func wantCode(t *testing.T, what string, e, want api.Errno) {
	t.Helper()
	if e != want {
		t.Fatalf("%s: %d, want %d", what, e, want)
	}
}

// begin opens one, at zeros.
func begin(t *testing.T, s *Table, id int) {
	t.Helper()
	wantCode(t, "Begin", s.Begin(id, vec.Vec{}), api.OK)
}

// write has a session write all of l.
func write(t *testing.T, s *Table, id int, l ...item.Write) {
	t.Helper()
	for _, one := range l {
		wantCode(t, "Write", s.Write(id, one), api.OK)
	}
}

// wantOpen: id has one open, at that, with these writes and no others.
func wantOpen(t *testing.T, what string, s *Table, id int, at vec.Vec, l ...item.Write) {
	t.Helper()
	if got, ok := s.Snapshot(id); got != at || !ok {
		t.Fatal(what, "Snapshot", id, got, ok)
	}
	if got := s.Writes(id); !slices.Equal(got, l) {
		t.Fatalf("%s: Writes %d %+v, want %+v", what, id, got, l)
	}
	for _, one := range l {
		if got, ok := s.Own(id, one.Bucket, one.Key); got != one || !ok {
			t.Fatalf("%s: Own %d %q %q: %+v %v, want %+v", what, id, one.Bucket, one.Key, got, ok, one)
		}
	}
	wantNoOwn(t, what, s, id, "b", "never", "", "b", "b", "", "", "", strings.Repeat("b", 17), strings.Repeat("k", 17))
}

// wantNoOwn: id has no write of these, by pairs of a bucket and a key.
func wantNoOwn(t *testing.T, what string, s *Table, id int, pairs ...string) {
	t.Helper()
	for pair := range slices.Chunk(pairs, 2) {
		if got, ok := s.Own(id, pair[0], pair[1]); got != (item.Write{}) || ok {
			t.Fatalf("%s: Own %d of %q: %+v %v", what, id, pair, got, ok)
		}
	}
}

// wantNone: id has none open, or is no session, and what asks for one turns nothing.
func wantNone(t *testing.T, what string, s *Table, id int) {
	t.Helper()
	wantStays(t, what, s, func() {
		if got, ok := s.Snapshot(id); got != (vec.Vec{}) || ok {
			t.Fatal(what, "Snapshot", id, got, ok)
		}
		if got := s.Writes(id); len(got) != 0 {
			t.Fatal(what, "Writes", id, got)
		}
		wantNoOwn(t, what, s, id, "b", "a", "b", "k", "", "")
		wantCode(t, what+", End", s.End(id), api.ErrNone)
		wantCode(t, what+", Write", s.Write(id, w("a", "v")), api.ErrNone)
		wantCode(t, what+", Write of one that goes", s.Write(id, gone("a")), api.ErrNone)
		for _, wrong := range wrongWrites() {
			wantCode(t, what+", a wrong Write", s.Write(id, wrong), api.ErrNone)
		}
	})
}

// TestNew (P14.1): none has seen anything, or has one open; the chapter's example: Seen of a new one is zeros.
func TestNew(t *testing.T) {
	s := New()
	for id := 1; id <= 8; id++ {
		if s.Seen(id) != (vec.Vec{}) {
			t.Error("Seen", id, s.Seen(id))
		}
		wantNone(t, "new", s, id)
	}
	if s.Many() != 0 {
		t.Error("Many", s.Many())
	}
}

// TestSee (P14.1): what a session has seen is the join of all, worked out by hand.
func TestSee(t *testing.T) {
	for _, id := range []int{1, 2, 7, 8} {
		s := New()
		for i, c := range []struct{ v, seen vec.Vec }{
			{vec.Vec{}, vec.Vec{}},
			{vec.Vec{1, 0, 5, 0}, vec.Vec{1, 0, 5, 0}},
			{vec.Vec{0, 2, 4, 0}, vec.Vec{1, 2, 5, 0}},
			{vec.Vec{}, vec.Vec{1, 2, 5, 0}},
			{vec.Vec{1, 2, 5, 0}, vec.Vec{1, 2, 5, 0}},
			{vec.Vec{1, 1, 1, 1}, vec.Vec{1, 2, 5, 1}},
			{vec.Vec{0, top, 0, 0}, vec.Vec{1, top, 5, 1}},
			{vec.Vec{9, top - 1, 6, 0}, vec.Vec{9, top, 6, 1}},
			{highest, highest},
			{vec.Vec{1, 2, 3, 4}, highest},
		} {
			if !s.See(id, c.v) || s.Seen(id) != c.seen {
				t.Fatal(id, i, s.Seen(id))
			}
		}
		for other := 1; other <= 8; other++ {
			if other != id && s.Seen(other) != (vec.Vec{}) {
				t.Error("another one has seen it", id, other, s.Seen(other))
			}
			wantNone(t, "seen", s, other)
		}
	}
}

// TestSeeWrong (P14.1, P2): of what is not right nothing is seen, not even the numbers of it that are.
func TestSeeWrong(t *testing.T) {
	s := New()
	if !s.See(2, vec.Vec{1, 9, 0, 1}) {
		t.Fatal("See")
	}
	begin(t, s, 3)
	for _, wrong := range wrongVecs() {
		wantStays(t, "a wrong vector", s, func() {
			for id := range 10 {
				if s.See(id, wrong) {
					t.Fatal("seen", id, wrong)
				}
			}
		})
	}
}

// TestNoSession (P14.1, P14.2, P6): a number that is no session's, for each call; of several errors the first is told.
func TestNoSession(t *testing.T) {
	s := New()
	for id := 1; id <= 8; id++ {
		s.See(id, vec.Vec{1, 2, 3, uint64(id)})
		wantCode(t, "Begin", s.Begin(id, vec.Vec{uint64(id), 5, 5, 5}), api.OK)
		write(t, s, id, w("a", "v"), w("k", "v"))
	}
	for _, id := range noIDs() {
		wantNone(t, "no session", s, id)
		wantStays(t, "no session", s, func() {
			if s.Seen(id) != (vec.Vec{}) || s.See(id, vec.Vec{9, 9, 9, 9}) || s.See(id, vec.Vec{}) || s.See(id, ends) || s.Seen(id) != (vec.Vec{}) {
				t.Error("Seen, See", id, s.Seen(id))
			}
			wantCode(t, "Begin", s.Begin(id, vec.Vec{9, 9, 9, 9}), api.ErrArg)
			wantCode(t, "Begin at zeros", s.Begin(id, vec.Vec{}), api.ErrArg)
			wantCode(t, "Begin at what is not right", s.Begin(id, ends), api.ErrArg)
		})
		wantNone(t, "no session, behind Begin", s, id)
	}
}

// TestNoSessionNew (P14.1, P14.2, P6): nor is anything kept for such a number where nobody has one open.
func TestNoSessionNew(t *testing.T) {
	s := New()
	for _, id := range noIDs() {
		wantCode(t, "Begin", s.Begin(id, vec.Vec{1, 1, 1, 1}), api.ErrArg)
		if s.See(id, vec.Vec{1, 1, 1, 1}) || s.Seen(id) != (vec.Vec{}) || s.Many() != 0 {
			t.Error("See", id)
		}
		wantNone(t, "no session", s, id)
	}
	if !reflect.DeepEqual(look(t, s), look(t, New())) {
		t.Error("not as a new one", look(t, s))
	}
}

// TestBegin (P14.2): at any right snapshot, whatever the session has seen, which stays.
func TestBegin(t *testing.T) {
	for _, at := range []vec.Vec{{}, {1, 2, 3, 4}, {4, 3, 2, 1}, {0, 0, 0, 1}, {top, 0, 0, 0}, {0, 0, 0, top}, {top - 1, top, top - 1, top}, highest} {
		s := New()
		for id := 1; id <= 8; id++ {
			s.See(id, vec.Vec{2, 2, 2, uint64(id)})
		}
		for id := 8; id >= 1; id-- {
			wantNone(t, "ahead of Begin", s, id)
			wantCode(t, "Begin", s.Begin(id, at), api.OK)
			wantOpen(t, "begun", s, id, at)
			if s.Seen(id) != (vec.Vec{2, 2, 2, uint64(id)}) || s.Many() != 9-id {
				t.Error(id, s.Seen(id), s.Many())
			}
		}
	}
}

// TestBeginOpen (P14.2, P2): of one that is open Begin tells ErrOld, and turns nothing: neither where it reads, nor what it writes.
func TestBeginOpen(t *testing.T) {
	for _, at := range []vec.Vec{{}, {5, 5, 5, 5}, highest} {
		s := New()
		wantCode(t, "Begin", s.Begin(4, at), api.OK)
		for many := range 3 {
			wantStays(t, "Begin again", s, func() {
				for _, again := range []vec.Vec{at, {}, {1, 1, 1, 1}, {6, 6, 6, 6}, highest} {
					wantCode(t, "Begin again", s.Begin(4, again), api.ErrOld)
				}
				for _, wrong := range wrongVecs() {
					wantCode(t, "Begin again at what is not right", s.Begin(4, wrong), api.ErrArg)
				}
			})
			write(t, s, 4, w(strconv.Itoa(many), "v"))
		}
		wantOpen(t, "begun once", s, 4, at, w("0", "v"), w("1", "v"), w("2", "v"))
	}
}

// TestBeginWrong (P14.2, P2): at what is not right none is opened, at its other numbers neither.
func TestBeginWrong(t *testing.T) {
	s := New()
	begin(t, s, 5)
	for _, wrong := range wrongVecs() {
		for _, id := range []int{1, 4, 6, 8} {
			wantStays(t, "Begin", s, func() {
				wantCode(t, "Begin", s.Begin(id, wrong), api.ErrArg)
			})
			wantNone(t, "not begun", s, id)
		}
	}
	for id := 1; id <= 4; id++ {
		begin(t, s, id)
	}
}

// TestWrites (P14.2): a key that is written again has the write in the place of what was, the others stay in their order.
func TestWrites(t *testing.T) {
	other := func(key, value string) item.Write {
		return item.Write{Bucket: "other", Key: key, Value: value}
	}
	s := New()
	at := vec.Vec{1, 2, 3, 4}
	wantCode(t, "Begin", s.Begin(3, at), api.OK)
	for i, c := range []struct {
		w    item.Write
		want []item.Write
	}{
		{w("z", "1"), []item.Write{w("z", "1")}},
		{w("z", "1"), []item.Write{w("z", "1")}},
		{w("a", "2"), []item.Write{w("z", "1"), w("a", "2")}},
		{w("z", ""), []item.Write{w("z", ""), w("a", "2")}},
		{other("z", "4"), []item.Write{w("z", ""), w("a", "2"), other("z", "4")}},
		{gone("m"), []item.Write{w("z", ""), w("a", "2"), other("z", "4"), gone("m")}},
		{gone("a"), []item.Write{w("z", ""), gone("a"), other("z", "4"), gone("m")}},
		{gone("a"), []item.Write{w("z", ""), gone("a"), other("z", "4"), gone("m")}},
		{other("a", "7"), []item.Write{w("z", ""), gone("a"), other("z", "4"), gone("m"), other("a", "7")}},
		{w("m", "8"), []item.Write{w("z", ""), gone("a"), other("z", "4"), w("m", "8"), other("a", "7")}},
		{w("a", "9"), []item.Write{w("z", ""), w("a", "9"), other("z", "4"), w("m", "8"), other("a", "7")}},
		{item.Write{Bucket: "other", Key: "z", Gone: true}, []item.Write{w("z", ""), w("a", "9"), {Bucket: "other", Key: "z", Gone: true}, w("m", "8"), other("a", "7")}},
	} {
		wantCode(t, strconv.Itoa(i), s.Write(3, c.w), api.OK)
		wantOpen(t, strconv.Itoa(i), s, 3, at, c.want...)
	}
}

// TestNames (P14.2): a key of another bucket is another one, though their bytes are the same together; so is what people would read alike.
func TestNames(t *testing.T) {
	long := strings.Repeat("n", 16)
	for _, group := range [][]string{
		{"ab", "c", "a", "bc", "c", "ab", "bc", "a", "a", "a", "aa", "a", "a", "aa", "b", "a"},
		{"a\x00", "b", "a", "\x00b", "\x00", "\x00\x00", "\x00\x00", "\x00", "a/", "b", "a", "/b", "A", "b", "a", "b"},
		{"\xff", "\xfe", "\xfe", "\xff", "\xef\xbf\xbd", "k", "\xff", "k", "é", "k", "e\u0301", "k", "k", "é", "k", "e\u0301"},
		{long, long, long[1:], long, long, long[1:], long[1:], long[1:], "n", long, long, "n", " ", "k", "k", " "},
	} {
		s := New()
		begin(t, s, 1)
		var want []item.Write
		for pair := range slices.Chunk(group, 2) {
			wantNoOwn(t, "not written yet", s, 1, pair...)
			want = append(want, item.Write{Bucket: pair[0], Key: pair[1], Value: strconv.Itoa(len(want))})
			write(t, s, 1, want[len(want)-1])
			wantOpen(t, "written", s, 1, vec.Vec{}, want...)
		}
		for i := range want {
			want[i].Value, want[i].Gone = "", true
			write(t, s, 1, want[i])
			wantOpen(t, "gone", s, 1, vec.Vec{}, want...)
		}
	}
}

// TestLengths (P14.2): all lengths that may be are written, and told to the byte.
func TestLengths(t *testing.T) {
	for _, b := range []int{1, 2, 15, 16} {
		for _, k := range []int{1, 2, 15, 16} {
			s := New()
			begin(t, s, 8)
			for _, v := range []int{0, 1, 31, 32, 0, 32} {
				one := item.Write{Bucket: strings.Repeat("b", b), Key: strings.Repeat("k", k), Value: strings.Repeat("\x00", v)}
				write(t, s, 8, one)
				wantOpen(t, "written", s, 8, vec.Vec{}, one)
			}
		}
	}
}

// TestFull (P14.2): MaxWrites keys are written, one more of another key is refused, one more of a key that is there is not.
func TestFull(t *testing.T) {
	s := New()
	at := vec.Vec{7, 7, 7, 7}
	wantCode(t, "Begin", s.Begin(1, at), api.OK)
	var want []item.Write
	for i := range 8 {
		want = append(want, w(strconv.Itoa(i), "first"))
		write(t, s, 1, want[i])
		wantOpen(t, "not full yet", s, 1, at, want...)
	}
	refused := func() {
		t.Helper()
		for _, one := range []item.Write{w("8", "v"), gone("8"), w("00", "first"), {Bucket: "c", Key: "0", Value: "first"}, {Bucket: "c", Key: "7", Gone: true}} {
			wantCode(t, "one more", s.Write(1, one), api.ErrFull)
			wantNoOwn(t, "one more", s, 1, one.Bucket, one.Key)
		}
		wantOpen(t, "full", s, 1, at, want...)
	}
	refused()
	for _, i := range []int{7, 0, 3, 0} {
		want[i] = w(strconv.Itoa(i), "again")
		write(t, s, 1, want[i])
		refused()
		want[i] = gone(strconv.Itoa(i))
		write(t, s, 1, want[i])
		refused()
	}
	begin(t, s, 2)
	write(t, s, 2, w("8", "v"))
	wantOpen(t, "another session has room", s, 2, vec.Vec{}, w("8", "v"))
	wantCode(t, "End", s.End(1), api.OK)
	begin(t, s, 1)
	write(t, s, 1, w("8", "v"))
	wantOpen(t, "the next one has room", s, 1, vec.Vec{}, w("8", "v"))
}

// TestWriteWrong (P14.2, P2): what is not right is refused, with no writes, with some, and where there is no room: ErrArg is told ahead of ErrFull.
func TestWriteWrong(t *testing.T) {
	s := New()
	begin(t, s, 6)
	var want []item.Write
	for _, key := range []string{"a", "1", "2", "3", "4", "5", "6", "7"} {
		for i, wrong := range wrongWrites() {
			wantStays(t, "a wrong one", s, func() {
				wantCode(t, strconv.Itoa(i), s.Write(6, wrong), api.ErrArg)
			})
		}
		want = append(want, w(key, "v"))
		write(t, s, 6, want[len(want)-1])
	}
	for i, wrong := range wrongWrites() {
		wantCode(t, "where there is no room, "+strconv.Itoa(i), s.Write(6, wrong), api.ErrArg)
	}
	wantOpen(t, "full", s, 6, vec.Vec{}, want...)
}

// TestEnd (P14.2): behind it none is open, and nothing of it is there when the session begins again; what the session has seen is.
func TestEnd(t *testing.T) {
	for id := 1; id <= 8; id++ {
		s := New()
		s.See(id, vec.Vec{1, 2, 0, 0})
		elder := []item.Write{w("a", "elder"), gone("k"), w("z", "elder")}
		for many := range 4 {
			at := vec.Vec{uint64(many), 3, 3, 3}
			wantCode(t, "Begin", s.Begin(id, at), api.OK)
			wantOpen(t, "no writes of the elder one", s, id, at)
			wantNoOwn(t, "of the elder one", s, id, "b", "a", "b", "k", "b", "z")
			write(t, s, id, elder[:many]...)
			s.See(id, vec.Vec{0, 0, uint64(many), 0})
			wantCode(t, "End", s.End(id), api.OK)
			wantNone(t, "ended", s, id)
			if s.Seen(id) != (vec.Vec{1, 2, uint64(many), 0}) || s.Many() != 0 || s.Horizon(ends) != ends {
				t.Error("behind End", s.Seen(id), s.Many(), s.Horizon(ends))
			}
		}
	}
}

// TestSeenWhileOpen (P14.1, P14.2): what a session sees turns neither where it reads, nor what it writes; nor does a snapshot, or a write, turn what it has seen.
func TestSeenWhileOpen(t *testing.T) {
	s := New()
	at := vec.Vec{5, 5, 0, 0}
	wantCode(t, "Begin", s.Begin(2, at), api.OK)
	write(t, s, 2, w("a", "v"))
	if s.Seen(2) != (vec.Vec{}) || !s.See(2, vec.Vec{6, 1, 1, 0}) || s.Seen(2) != (vec.Vec{6, 1, 1, 0}) {
		t.Error("Seen", s.Seen(2))
	}
	wantOpen(t, "seen", s, 2, at, w("a", "v"))
	if s.Horizon(ends) != at {
		t.Error("Horizon", s.Horizon(ends))
	}
	wantCode(t, "End", s.End(2), api.OK)
	if s.Seen(2) != (vec.Vec{6, 1, 1, 0}) {
		t.Error("Seen behind End", s.Seen(2))
	}
}

// TestHorizon (P14.3): the meet of stable and what is open: with none, with one, with several, worked out by hand; asking turns nothing.
func TestHorizon(t *testing.T) {
	s := New()
	ask := func(stable, want vec.Vec) {
		t.Helper()
		for range 2 {
			if got := s.Horizon(stable); got != want {
				t.Fatal("Horizon", stable, got, want)
			}
		}
	}
	for _, stable := range []vec.Vec{{}, {1, 2, 3, 4}, highest, ends, {top + 1, 0, 0, 0}} {
		ask(stable, stable)
	}
	wantCode(t, "Begin", s.Begin(8, vec.Vec{3, 3, 0, top}), api.OK)
	ask(ends, vec.Vec{3, 3, 0, top})
	ask(highest, vec.Vec{3, 3, 0, top})
	ask(vec.Vec{}, vec.Vec{})
	ask(vec.Vec{0, 1, 2, 3}, vec.Vec{0, 1, 0, 3})
	ask(vec.Vec{3, 4, 1, top + 1}, vec.Vec{3, 3, 0, top})
	wantCode(t, "Begin", s.Begin(1, vec.Vec{1, 9, 5, 5}), api.OK)
	ask(ends, vec.Vec{1, 3, 0, 5})
	ask(vec.Vec{9, 9, 9, 9}, vec.Vec{1, 3, 0, 5})
	ask(vec.Vec{9, 2, 9, 4}, vec.Vec{1, 2, 0, 4})
	wantCode(t, "Begin", s.Begin(4, vec.Vec{2, 4, 1, 6}), api.OK)
	ask(ends, vec.Vec{1, 3, 0, 5})
	wantCode(t, "End", s.End(8), api.OK)
	ask(ends, vec.Vec{1, 4, 1, 5})
	wantCode(t, "End", s.End(1), api.OK)
	ask(ends, vec.Vec{2, 4, 1, 6})
	begin(t, s, 8)
	ask(ends, vec.Vec{})
	wantCode(t, "End", s.End(8), api.OK)
	wantCode(t, "End", s.End(4), api.OK)
	ask(ends, ends)
	ask(vec.Vec{8, 8, 8, 8}, vec.Vec{8, 8, 8, 8})
}

// TestHorizonAll (P14.3): with all open each of them counts, whichever is the least at whichever number; what was only seen does not.
func TestHorizonAll(t *testing.T) {
	for least := 1; least <= 8; least++ {
		for place := range 4 {
			s := New()
			for id := 1; id <= 8; id++ {
				s.See(id, vec.Vec{1, 1, 1, 1})
				at := vec.Vec{50, 60, 70, 80}
				if id == least {
					at[place] = 7
				}
				wantCode(t, "Begin", s.Begin(id, at), api.OK)
			}
			want := vec.Vec{50, 60, 70, 80}
			want[place] = 7
			if s.Horizon(highest) != want || s.Horizon(ends) != want || s.Many() != 8 {
				t.Error(least, place, s.Horizon(highest))
			}
			wantCode(t, "End", s.End(least), api.OK)
			if s.Horizon(highest) != (vec.Vec{50, 60, 70, 80}) || s.Many() != 7 {
				t.Error("behind its End", least, place, s.Horizon(highest))
			}
		}
	}
}

// TestMany (P14.3): how many are open, behind each Begin and End, the refused ones too.
func TestMany(t *testing.T) {
	s := New()
	want := func(many int) {
		t.Helper()
		if s.Many() != many || s.Many() != many {
			t.Fatal("Many", s.Many(), many)
		}
	}
	for i, id := range []int{5, 1, 8, 2, 7, 3, 6, 4} {
		want(i)
		begin(t, s, id)
		want(i + 1)
		wantCode(t, "Begin again", s.Begin(id, vec.Vec{1, 1, 1, 1}), api.ErrOld)
		wantCode(t, "no session", s.Begin(i-8, vec.Vec{}), api.ErrArg)
		write(t, s, id, w("a", "v"))
		want(i + 1)
	}
	for i, id := range []int{8, 1, 2, 3, 7, 5, 4, 6} {
		want(8 - i)
		wantCode(t, "End", s.End(id), api.OK)
		want(7 - i)
		wantCode(t, "End again", s.End(id), api.ErrNone)
		want(7 - i)
	}
	begin(t, s, 8)
	want(1)
}

// TestApart (P14.4): eight sessions beside one another, each of which writes, sees and ends for itself.
func TestApart(t *testing.T) {
	s := New()
	value := func(id, many int) string {
		return strconv.Itoa(id) + "/" + strconv.Itoa(many)
	}
	own := func(id int) []item.Write {
		return []item.Write{w("a", value(id, 2)), w("only"+strconv.Itoa(id), value(id, 1))}
	}
	for id := 1; id <= 8; id++ {
		wantCode(t, "Begin", s.Begin(id, vec.Vec{uint64(id), 0, 0, 0}), api.OK)
		s.See(id, vec.Vec{0, uint64(id), 0, 0})
	}
	for many := range 3 {
		for id := 1; id <= 8; id++ {
			write(t, s, id, w([]string{"a", "only" + strconv.Itoa(id), "a"}[many], value(id, many)))
		}
	}
	for ended := 1; ended <= 8; ended++ {
		for id := 1; id <= 8; id++ {
			if id < ended {
				wantNone(t, "ended", s, id)
			} else {
				wantOpen(t, "open", s, id, vec.Vec{uint64(id), 0, 0, 0}, own(id)...)
				wantNoOwn(t, "open", s, id, "b", "only"+strconv.Itoa(id%8+1))
			}
			if s.Seen(id) != (vec.Vec{0, uint64(id), 0, 0}) {
				t.Error("Seen", id, s.Seen(id))
			}
		}
		wantCode(t, "End", s.End(ended), api.OK)
	}
}

// TestWhoHasNone (P14.4): beside one that has a transaction open, who has none writes nothing, to it neither.
func TestWhoHasNone(t *testing.T) {
	for open := 1; open <= 8; open++ {
		s := New()
		begin(t, s, open)
		write(t, s, open, w("a", "own"), gone("k"))
		for id := 0; id <= 9; id++ {
			if id != open {
				wantNone(t, "beside it", s, id)
			}
		}
		wantOpen(t, "it", s, open, vec.Vec{}, w("a", "own"), gone("k"))
	}
}

// TestTables (P14.4, P4): what is done to one table is nothing to another one.
func TestTables(t *testing.T) {
	a, b := New(), New()
	begin(t, a, 1)
	write(t, a, 1, w("a", "of a"))
	a.See(1, vec.Vec{1, 1, 1, 1})
	wantNone(t, "b", b, 1)
	if b.Seen(1) != (vec.Vec{}) || b.Many() != 0 || b.Horizon(ends) != ends {
		t.Error("b", b.Seen(1), b.Many())
	}
	wantCode(t, "Begin", b.Begin(1, vec.Vec{2, 2, 2, 2}), api.OK)
	write(t, b, 1, w("a", "of b"))
	wantOpen(t, "a", a, 1, vec.Vec{}, w("a", "of a"))
	wantCode(t, "End", a.End(1), api.OK)
	wantOpen(t, "b", b, 1, vec.Vec{2, 2, 2, 2}, w("a", "of b"))
}

// TestWritesNew (P3): a list that was told, turned by its caller, with its spare room, turns no session; nor does a session turn it.
func TestWritesNew(t *testing.T) {
	for many := range 9 {
		s := New()
		begin(t, s, 3)
		var want []item.Write
		for i := range many {
			want = append(want, w(strconv.Itoa(i), "v"))
		}
		write(t, s, 3, want...)
		kept, other := s.Writes(3), s.Writes(3)
		all := other[:cap(other)]
		for i := range all {
			all[i] = gone("turned")
		}
		wantOpen(t, "turned", s, 3, vec.Vec{}, want...)
		if !slices.Equal(kept, want) {
			t.Error("two lists share memory", many, kept)
		}
		for i := range want {
			write(t, s, 3, gone(strconv.Itoa(i)))
		}
		if many < 8 {
			write(t, s, 3, w("new", "v"))
		}
		if !slices.Equal(kept, want) {
			t.Error("the session turned it", many, kept)
		}
		for _, one := range all {
			if one != gone("turned") {
				t.Error("the session turned its spare room", many, one)
			}
		}
		wantCode(t, "End", s.End(3), api.OK)
		begin(t, s, 3)
		write(t, s, 3, w("behind", "v"))
		if !slices.Equal(kept, want) {
			t.Error("the next one turned it", many, kept)
		}
	}
}

// TestSpareRoom (P3): what was put behind a list that was told stands, whatever is written behind it.
func TestSpareRoom(t *testing.T) {
	s := New()
	begin(t, s, 1)
	for i := range 7 {
		write(t, s, 1, w(strconv.Itoa(i), "v"))
		longer := append(s.Writes(1), gone("behind"))
		write(t, s, 1, w(strconv.Itoa(i+1), "v"))
		if longer[i+1] != gone("behind") {
			t.Error("written into", i, longer)
		}
		if got := s.Writes(1); got[i+1] != w(strconv.Itoa(i+1), "v") {
			t.Error("written into the session", i, got)
		}
	}
}

// TestTextsNotKept (P3): the texts of a write are not kept, of a key that is new, or of one that is there: here they stand in bytes that are turned behind the Write.
func TestTextsNotKept(t *testing.T) {
	for _, there := range []bool{false, true} {
		s := New()
		begin(t, s, 1)
		want := item.Write{Bucket: "bucket", Key: "key", Value: "value"}
		if there {
			write(t, s, 1, item.Write{Bucket: "bucket", Key: "key", Gone: true})
		}
		bytes := []byte("bucketkeyvalue")
		text := unsafe.String(&bytes[0], len(bytes))
		write(t, s, 1, item.Write{Bucket: text[:6], Key: text[6:9], Value: text[9:]})
		if got, ok := s.Own(1, text[:6], text[6:9]); got != want || !ok {
			t.Error("Own", got, ok)
		}
		for i := range bytes {
			bytes[i] = '-'
		}
		wantOpen(t, "turned", s, 1, vec.Vec{}, want)
		wantNoOwn(t, "of these bytes", s, 1, "------", "---")
		write(t, s, 1, item.Write{Bucket: "bucket", Key: "key", Value: "again"})
		wantOpen(t, "again", s, 1, vec.Vec{}, item.Write{Bucket: "bucket", Key: "key", Value: "again"})
	}
}

// model has all that was done to its table, and goes through it for each answer.
type model struct {
	seen   map[int][]vec.Vec
	begun  map[int]vec.Vec
	writes map[int][]item.Write
}

// newModel is that of a new table.
func newModel() *model {
	return &model{seen: map[int][]vec.Vec{}, begun: map[int]vec.Vec{}, writes: map[int][]item.Write{}}
}

// rightVec: as chapter 6 says it.
func rightVec(v vec.Vec) bool {
	return v[0] <= top && v[1] <= top && v[2] <= top && v[3] <= top
}

// rightWrite: as chapter 8 says it.
func rightWrite(w item.Write) bool {
	if len(w.Bucket) < 1 || len(w.Bucket) > 16 || len(w.Key) < 1 || len(w.Key) > 16 {
		return false
	}
	return len(w.Value) <= 32 && (!w.Gone || len(w.Value) == 0)
}

// names is the keys of l, in the order in which they were first written.
func names(l []item.Write) (out [][2]string) {
	for _, one := range l {
		if name := [2]string{one.Bucket, one.Key}; !slices.Contains(out, name) {
			out = append(out, name)
		}
	}
	return out
}

// all is what l comes to: of each key what was written last.
func all(l []item.Write) (out []item.Write) {
	for _, name := range names(l) {
		for _, one := range slices.Backward(l) {
			if one.Bucket == name[0] && one.Key == name[1] {
				out = append(out, one)
				break
			}
		}
	}
	return out
}

// see is what See tells.
func (m *model) see(id int, v vec.Vec) bool {
	if id < 1 || id > 8 || !rightVec(v) {
		return false
	}
	m.seen[id] = append(m.seen[id], v)
	return true
}

// begin is what Begin tells.
func (m *model) begin(id int, at vec.Vec) api.Errno {
	if id < 1 || id > 8 || !rightVec(at) {
		return api.ErrArg
	}
	if _, ok := m.begun[id]; ok {
		return api.ErrOld
	}
	m.begun[id] = at
	return api.OK
}

// write is what Write tells.
func (m *model) write(id int, w item.Write) api.Errno {
	if _, ok := m.begun[id]; !ok {
		return api.ErrNone
	}
	if !rightWrite(w) {
		return api.ErrArg
	}
	if more := append(slices.Clone(m.writes[id]), w); len(names(more)) <= 8 {
		m.writes[id] = more
		return api.OK
	}
	return api.ErrFull
}

// end is what End tells.
func (m *model) end(id int) api.Errno {
	if _, ok := m.begun[id]; !ok {
		return api.ErrNone
	}
	delete(m.begun, id)
	delete(m.writes, id)
	return api.OK
}

// look is the model's picture.
func (m *model) look() picture {
	p := picture{many: len(m.begun), horizon: ends}
	for id := 1; id <= 8; id++ {
		for _, v := range m.seen[id] {
			for i, n := range v {
				p.seen[id][i] = max(p.seen[id][i], n)
			}
		}
		p.at[id], p.open[id] = m.begun[id]
		p.writes[id] = append([]item.Write{}, all(m.writes[id])...)
		if p.open[id] {
			for i, n := range p.at[id] {
				p.horizon[i] = min(p.horizon[i], n)
			}
		}
	}
	return p
}

// anyID is some number: mostly a session's, of so many.
func anyID(r *rand.Rand, sessions int) int {
	if r.Intn(20) == 0 {
		return noIDs()[r.Intn(len(noIDs()))]
	}
	return 1 + r.Intn(sessions)
}

// anyVec is some vector: mostly one that is right.
func anyVec(r *rand.Rand) (v vec.Vec) {
	if r.Intn(12) == 0 {
		return wrongVecs()[r.Intn(len(wrongVecs()))]
	}
	for i := range v {
		v[i] = []uint64{uint64(r.Intn(9)), uint64(r.Intn(100)), r.Uint64() % top, top}[r.Intn(4)]
	}
	return v
}

// anyWrite is some write: of few names, so that many are of one key; now and then one that is not right.
func anyWrite(r *rand.Rand) item.Write {
	if r.Intn(12) == 0 {
		return wrongWrites()[r.Intn(len(wrongWrites()))]
	}
	out := item.Write{Bucket: strings.Repeat("b", 1+r.Intn(3)), Key: strings.Repeat("b", 1+r.Intn(4))}
	if r.Intn(4) == 0 {
		out.Gone = true
	} else {
		out.Value = strconv.Itoa(r.Intn(1000))
	}
	return out
}

// step does one thing to the table and to its model, holds what they tell against one another, and is what was told.
func step(t *testing.T, r *rand.Rand, s *Table, m *model, sessions int) string {
	t.Helper()
	id := anyID(r, sessions)
	told := func(call string, got, want api.Errno) string {
		t.Helper()
		wantCode(t, call, got, want)
		return call + " " + strconv.Itoa(int(got))
	}
	switch n := r.Intn(40); {
	case n < 3:
		v := anyVec(r)
		got := s.See(id, v)
		if got != m.see(id, v) {
			t.Fatal("See", id, v, got)
		}
		return "See " + strconv.FormatBool(got)
	case n < 8:
		at := anyVec(r)
		return told("Begin", s.Begin(id, at), m.begin(id, at))
	case n < 10:
		return told("End", s.End(id), m.end(id))
	default:
		one := anyWrite(r)
		return told("Write", s.Write(id, one), m.write(id, one))
	}
}

// wantModel: s tells what m tells, of each key too.
func wantModel(t *testing.T, r *rand.Rand, s *Table, m *model) {
	t.Helper()
	want := m.look()
	if got := look(t, s); !reflect.DeepEqual(got, want) {
		t.Fatalf("%v, want %v", got, want)
	}
	stable, id, one := anyVec(r), anyID(r, 8), anyWrite(r)
	var horizon vec.Vec
	for i := range horizon {
		horizon[i] = min(stable[i], want.horizon[i])
	}
	if got := s.Horizon(stable); got != horizon {
		t.Fatal("Horizon", stable, got, horizon)
	}
	var own item.Write
	for _, written := range m.writes[id] {
		if written.Bucket == one.Bucket && written.Key == one.Key {
			own = written
		}
	}
	if got, ok := s.Own(id, one.Bucket, one.Key); got != own || ok != (own != item.Write{}) {
		t.Fatal("Own", id, one, got, ok, own)
	}
}

// TestScripts (P14.1 to P14.4): long scripts tell what the model tells.
func TestScripts(t *testing.T) {
	r := rand.New(rand.NewSource(14))
	told := map[string]int{}
	full, most := 0, 0
	for i := range 60 {
		s, m := New(), newModel()
		for range 300 {
			told[step(t, r, s, m, 1+i%8)]++
			wantModel(t, r, s, m)
			full = max(full, len(names(m.writes[1])))
			most = max(most, s.Many())
		}
	}
	for _, one := range []string{"See true", "See false", "Begin 0", "Begin 1", "Begin 6", "End 0", "End 5", "Write 0", "Write 1", "Write 4", "Write 5"} {
		if told[one] < 100 {
			t.Error("the scripts try too little", one, told[one])
		}
	}
	if full != 8 || most != 8 || len(told) != 11 {
		t.Error("the scripts try too little", full, most, told)
	}
}

// TestSameAgain (P4): two tables to which the same is done tell the same, though one was asked more in between.
func TestSameAgain(t *testing.T) {
	a, b := New(), New()
	one, two, asks := rand.New(rand.NewSource(4)), rand.New(rand.NewSource(4)), rand.New(rand.NewSource(5))
	forA, forB := newModel(), newModel()
	for range 2000 {
		for range 3 {
			id, w := anyID(asks, 8), anyWrite(asks)
			b.Seen(id)
			b.Snapshot(id)
			b.Own(id, w.Bucket, w.Key)
			b.Writes(id)
			b.Horizon(anyVec(asks))
			b.Many()
		}
		if step(t, one, a, forA, 4) != step(t, two, b, forB, 4) || !reflect.DeepEqual(look(t, a), look(t, b)) {
			t.Fatal("not the same", look(t, a), look(t, b))
		}
	}
}

// TestSession (P14.2): a session keeps to its room and its order whatever it writes.
func TestSession(t *testing.T) {
	var s session[int]
	wantCode(t, "end of none", s.end(), api.ErrNone)
	wantCode(t, "begin", s.begin(vec.Vec{1, 2, 3, 4}), api.OK)
	for i := range 8 {
		wantCode(t, "put", s.put(10*i, func(x int) bool { return x/10 == i }), api.OK)
	}
	wantCode(t, "put one more", s.put(80, func(x int) bool { return x == 80 }), api.ErrFull)
	wantCode(t, "put in its place", s.put(35, func(x int) bool { return x/10 == 3 }), api.OK)
	if want := []int{0, 10, 20, 35, 40, 50, 60, 70}; !slices.Equal(s.writes, want) {
		t.Error(s.writes, want)
	}
	if got, ok := s.pick(func(x int) bool { return x > 20 }); got != 35 || !ok {
		t.Error("pick", got, ok)
	}
	if got, ok := s.pick(func(x int) bool { return x < 0 }); got != 0 || ok {
		t.Error("pick of none", got, ok)
	}
	wantCode(t, "end", s.end(), api.OK)
	if s.open || s.writes != nil || s.snapshot != (vec.Vec{}) {
		t.Error("kept", s)
	}
}
