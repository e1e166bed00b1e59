package shard

import (
	"math"
	"math/rand"
	"slices"
	"strconv"
	"strings"
	"testing"
	"unsafe"

	"tenement/api"
	"tenement/item"
	"tenement/stamp"
	"tenement/vec"
)

// at is a stamp of that datacenter.
func at(dc int, numbers ...uint64) stamp.Stamp {
	s := stamp.Stamp{DC: dc}
	copy(s.Vec[:], numbers)
	return s
}

// put is a write of a value in bucket b.
func put(key, value string) item.Write {
	return item.Write{Bucket: "b", Key: key, Value: value}
}

// gone is a write of nothing any more in bucket b.
func gone(key string) item.Write {
	return item.Write{Bucket: "b", Key: key, Gone: true}
}

// list is some writes.
func list(l ...item.Write) []item.Write {
	return l
}

// beyondAll has seen whatever is right; it is not right itself, and need not be.
func beyondAll() vec.Vec {
	return vec.Vec{math.MaxUint64, math.MaxUint64, math.MaxUint64, math.MaxUint64}
}

// wrongStamps: its datacenter 0, below or too great, no number there, or a number that is too great.
func wrongStamps() []stamp.Stamp {
	return []stamp.Stamp{
		{},
		at(0, 1, 1, 1, 1),
		at(-1, 1, 1, 1, 1),
		at(api.MaxDCs+1, 1, 1, 1, 1),
		at(257, 1, 1, 1, 1),
		at(math.MinInt, 1, 1, 1, 1),
		at(math.MaxInt, 1, 1, 1, 1),
		at(1, 0, 9, 9, 9),
		at(4, 9, 9, 9, 0),
		at(1, vec.Most+1),
		at(1, 1, vec.Most+1),
		at(2, 1, 1, 1<<63),
		at(4, math.MaxUint64, math.MaxUint64, math.MaxUint64, math.MaxUint64),
	}
}

// long is a text of many bytes.
func long(many int) string {
	return strings.Repeat("x", many)
}

// wrongWrites: each not right by one thing alone, but for the first.
func wrongWrites() []item.Write {
	return []item.Write{
		{},
		{Key: "k", Value: "v"},
		{Bucket: "b", Value: "v"},
		{Key: "k", Gone: true},
		{Bucket: "b", Gone: true},
		{Bucket: long(api.MaxKey + 1), Key: "k", Value: "v"},
		{Bucket: "b", Key: long(api.MaxKey + 1), Value: "v"},
		{Bucket: "b", Key: "k", Value: long(api.MaxValue + 1)},
		{Bucket: "b", Key: "k", Value: "v", Gone: true},
		{Bucket: "b", Key: "k", Value: "\x00", Gone: true},
	}
}

// fresh is a shard where nothing was done yet.
func fresh(t *testing.T, room int) *Shard {
	t.Helper()
	s, e := New(room)
	if s == nil || e != api.OK {
		t.Fatalf("New(%d) = %v, %d", room, s, e)
	}
	wantCount(t, s, 0, room)
	return s
}

// wantCount asks Waiting and Room.
func wantCount(t *testing.T, s *Shard, waiting, room int) {
	t.Helper()
	if s.Waiting() != waiting || s.Room() != room {
		t.Errorf("Waiting, Room = %d, %d; want %d, %d", s.Waiting(), s.Room(), waiting, room)
	}
}

// applied has those writes applied as one transaction.
func applied(t *testing.T, s *Shard, st stamp.Stamp, l ...item.Write) {
	t.Helper()
	if !s.Push(st, l) || !s.Step() {
		t.Fatal("Push, or Step", st, l)
	}
}

// wantRead asks Read of a key in bucket b: what it must tell is the value, or "-" for what is gone, and the stamp's Text, or nothing for none.
func wantRead(t *testing.T, s *Shard, key string, by vec.Vec, value, text string) {
	t.Helper()
	got, st, ok := s.Read("b", key, by)
	wantValue, wantText, there := value, text, text != "" && value != "-"
	if !there {
		wantValue = ""
	}
	if text == "" {
		wantText = stamp.Text(stamp.Stamp{})
	}
	if got != wantValue || stamp.Text(st) != wantText || ok != there {
		t.Errorf("Read(%q, %v) = %q, %s, %v; want %q, %s, %v", key, by, got, stamp.Text(st), ok, wantValue, wantText, there)
	}
}

// wantLast asks Last of the key of w, which must be what was written last.
func wantLast(t *testing.T, s *Shard, w item.Write, by stamp.Stamp) {
	t.Helper()
	if got, st, ok := s.Last(w.Bucket, w.Key); got != w || st != by || !ok {
		t.Errorf("Last(%q, %q) = %v, %v, %v; want %v, %v", w.Bucket, w.Key, got, st, ok, w, by)
	}
}

// wantNone asks Read, at several snapshots, and Last of a key that has no version.
func wantNone(t *testing.T, s *Shard, bucket, key string) {
	t.Helper()
	for _, by := range []vec.Vec{{}, {1, 1, 1, 1}, {9, 9, 9, 9}, beyondAll()} {
		if value, st, ok := s.Read(bucket, key, by); value != "" || st != (stamp.Stamp{}) || ok {
			t.Errorf("Read(%q, %q, %v) = %q, %v, %v; want none", bucket, key, by, value, st, ok)
		}
	}
	if w, st, ok := s.Last(bucket, key); w != (item.Write{}) || st != (stamp.Stamp{}) || ok {
		t.Errorf("Last(%q, %q) = %v, %v, %v; want none", bucket, key, w, st, ok)
	}
}

// TestNew (P10.1 to P10.3): at each room that may be a lane's a new one has no keys, nothing waits, Applied is zeros; the chapter's example: Step of it is false.
func TestNew(t *testing.T) {
	for room := 1; room <= api.MaxLane; room++ {
		s := fresh(t, room)
		for range 2 {
			if s.Step() {
				t.Error("Step", room)
			}
			if s.Applied() != (vec.Vec{}) || s.Versions() != 0 {
				t.Error(room, s.Applied(), s.Versions())
			}
			if s.Prune(vec.Vec{}) != 0 || s.Prune(beyondAll()) != 0 {
				t.Error("Prune", room)
			}
			wantNone(t, s, "b", "k")
			wantNone(t, s, "", "")
			wantCount(t, s, 0, room)
		}
	}
}

// TestNewWrong (P10.1): a room that may be no lane's, such as would be right in fewer bits among them.
func TestNewWrong(t *testing.T) {
	wrong := []int{0, -1, -2, -16, 17, 18, 32, 256, 257, 272, 1<<16 + 1, 1<<32 + 1, 1<<32 + 16,
		-1<<32 + 1, math.MaxInt32, math.MinInt32, math.MaxInt, math.MinInt, math.MinInt + 1}
	for _, room := range wrong {
		if s, e := New(room); s != nil || e != api.ErrArg {
			t.Errorf("New(%d) = %v, %d; want nil, ErrArg", room, s, e)
		}
	}
}

// TestKnown (P10.1 to P10.4): calls with their answers written out.
func TestKnown(t *testing.T) {
	s := fresh(t, 2)
	if !s.Push(at(1, 1), list(put("k", "one"), put("z", ""))) {
		t.Fatal("Push")
	}
	wantCount(t, s, 1, 1)
	if !s.Push(at(2, 1, 1), list(put("k", "two"), gone("z"))) || s.Push(at(1, 2), list(put("k", "three"))) {
		t.Fatal("Push")
	}
	wantCount(t, s, 2, 0)
	wantNone(t, s, "b", "k")
	if !s.Step() || s.Applied() != (vec.Vec{1}) || s.Versions() != 2 {
		t.Error(s.Applied(), s.Versions())
	}
	wantCount(t, s, 1, 1)
	wantRead(t, s, "k", vec.Vec{1}, "one", "1@1,0,0,0")
	wantRead(t, s, "z", vec.Vec{1, 1}, "", "1@1,0,0,0")
	wantLast(t, s, put("k", "one"), at(1, 1))
	wantLast(t, s, put("z", ""), at(1, 1))
	if !s.Step() || s.Step() || s.Applied() != (vec.Vec{1, 1}) || s.Versions() != 4 {
		t.Error(s.Applied(), s.Versions())
	}
	wantCount(t, s, 0, 2)
	wantRead(t, s, "k", vec.Vec{1}, "one", "1@1,0,0,0")
	wantRead(t, s, "k", vec.Vec{1, 1}, "two", "2@1,1,0,0")
	wantRead(t, s, "z", vec.Vec{1}, "", "1@1,0,0,0")
	wantRead(t, s, "z", vec.Vec{1, 1}, "-", "2@1,1,0,0")
	wantRead(t, s, "z", vec.Vec{}, "", "")
	wantLast(t, s, put("k", "two"), at(2, 1, 1))
	wantLast(t, s, gone("z"), at(2, 1, 1))
	if s.Prune(vec.Vec{1}) != 0 || s.Prune(vec.Vec{1, 1}) != 2 || s.Prune(vec.Vec{1, 1}) != 0 || s.Versions() != 2 {
		t.Error("Prune", s.Versions())
	}
	wantRead(t, s, "k", vec.Vec{1}, "", "")
	wantRead(t, s, "k", vec.Vec{1, 1}, "two", "2@1,1,0,0")
	wantRead(t, s, "z", vec.Vec{1, 1}, "-", "2@1,1,0,0")
}

// TestFull (P10.1, P10.2): at each room as many wait as may, and no more; with room once more the next one waits, behind the others.
func TestFull(t *testing.T) {
	for room := 1; room <= api.MaxLane; room++ {
		s := fresh(t, room)
		n, first := uint64(0), uint64(1)
		push := func(want bool) {
			t.Helper()
			if got := s.Push(at(3, 0, 0, n+1), list(put("k", strconv.FormatUint(n+1, 10)))); got != want {
				t.Errorf("room %d: Push = %v with %d waiting", room, got, s.Waiting())
			}
			if want {
				n++
			}
			wantCount(t, s, int(n-first)+1, room-int(n-first)-1)
		}
		step := func() {
			t.Helper()
			if !s.Step() || s.Applied() != (vec.Vec{0, 0, first}) || s.Versions() != int(first) {
				t.Errorf("room %d: Step, then %v, %d", room, s.Applied(), s.Versions())
			}
			wantLast(t, s, put("k", strconv.FormatUint(first, 10)), at(3, 0, 0, first))
			first++
			wantCount(t, s, int(n-first)+1, room-int(n-first)-1)
		}
		for range 3 {
			for range room {
				push(true)
			}
			push(false)
			push(false)
			step()
			push(true)
			push(false)
			for range room {
				step()
			}
			if s.Step() {
				t.Errorf("room %d: Step with nothing that waits", room)
			}
		}
	}
}

// TestFullWrong (P10.1): what is wrong, or without writes, is refused of a full one too, and changes nothing.
func TestFullWrong(t *testing.T) {
	s := fresh(t, 1)
	if !s.Push(at(1, 1), list(put("k", "v"))) || s.Push(at(1, 2), nil) || s.Push(stamp.Stamp{}, nil) || s.Push(at(1, 2), list(item.Write{})) {
		t.Error("Push")
	}
	wantCount(t, s, 1, 0)
	if !s.Step() || s.Applied() != (vec.Vec{1}) || s.Versions() != 1 {
		t.Error(s.Applied(), s.Versions())
	}
}

// TestPushWrongStamp (P10.1): a stamp that is not right is refused, with writes and without, and changes nothing.
func TestPushWrongStamp(t *testing.T) {
	s := fresh(t, 4)
	applied(t, s, at(1, 1), put("k", "old"))
	if !s.Push(at(1, 2), list(put("k", "next"))) {
		t.Fatal("Push")
	}
	for _, st := range wrongStamps() {
		for _, l := range [][]item.Write{nil, {}, list(put("k", "wrong")), list(put("k", "wrong"), put("z", "wrong"))} {
			if s.Push(st, l) {
				t.Error(st, l)
			}
			wantCount(t, s, 1, 3)
		}
	}
	if !s.Step() || s.Step() || s.Applied() != (vec.Vec{2}) || s.Versions() != 2 {
		t.Error(s.Applied(), s.Versions())
	}
	wantLast(t, s, put("k", "next"), at(1, 2))
	wantNone(t, s, "b", "z")
}

// TestPushWrongWrite (P10.1): one write of several that is not right, wherever it stands: nothing of them waits, and nothing is ever read of them.
func TestPushWrongWrite(t *testing.T) {
	for _, w := range wrongWrites() {
		for many := 1; many <= api.MaxWrites; many++ {
			for place := range many {
				s := fresh(t, 2)
				var l []item.Write
				for i := range many {
					l = append(l, put("k"+strconv.Itoa(i), "v"))
				}
				l[place] = w
				if s.Push(at(1, 1), l) {
					t.Error(place, l)
				}
				wantCount(t, s, 0, 2)
				if s.Step() || s.Applied() != (vec.Vec{}) || s.Versions() != 0 {
					t.Error(place, l, s.Applied(), s.Versions())
				}
				wantNone(t, s, w.Bucket, w.Key)
				wantNone(t, s, "b", "k0")
			}
		}
	}
}

// TestPushRight (P10.1, P10.3): writes at the edges of each length, and of any bytes, are told as they were pushed.
func TestPushRight(t *testing.T) {
	edges := []item.Write{
		{Bucket: "b", Key: "k"},
		{Bucket: long(api.MaxKey), Key: long(api.MaxKey), Value: long(api.MaxValue)},
		{Bucket: long(api.MaxKey), Key: "k", Gone: true},
		{Bucket: "\x00", Key: "\x00\x00", Value: "\x00"},
		{Bucket: "\xff\xfe", Key: "\x80", Value: "\xc3("},
	}
	for _, st := range []stamp.Stamp{at(1, 1), at(4, 0, 0, 0, 1), at(2, vec.Most, vec.Most, vec.Most, vec.Most), at(3, vec.Most, 0, 1)} {
		s := fresh(t, 1)
		applied(t, s, st, edges...)
		if s.Versions() != len(edges) || s.Applied() != vec.With(vec.Vec{}, st.DC, st.N()) {
			t.Error(st, s.Versions(), s.Applied())
		}
		for _, w := range edges {
			wantLast(t, s, w, st)
			for _, by := range []vec.Vec{st.Vec, beyondAll()} {
				if value, told, ok := s.Read(w.Bucket, w.Key, by); value != w.Value || told != st || ok == w.Gone {
					t.Error(w, by, value, told, ok)
				}
			}
		}
	}
}

// TestPushNothing (P10.1, P10.2): no writes wait and are applied as others are: they count in Applied, and are no versions.
func TestPushNothing(t *testing.T) {
	for _, none := range [][]item.Write{nil, {}} {
		s := fresh(t, 2)
		if !s.Push(at(2, 7, 3), none) {
			t.Fatal("Push")
		}
		wantCount(t, s, 1, 1)
		if s.Applied() != (vec.Vec{}) || !s.Step() || s.Step() || s.Applied() != (vec.Vec{0, 3}) || s.Versions() != 0 || s.Prune(beyondAll()) != 0 {
			t.Error(s.Applied(), s.Versions())
		}
		wantCount(t, s, 0, 2)
	}
}

// TestPushMany (P10.1): how many writes there are is not asked.
func TestPushMany(t *testing.T) {
	for _, many := range []int{api.MaxWrites, api.MaxWrites + 1, 300} {
		s := fresh(t, 1)
		var l []item.Write
		for i := range many {
			l = append(l, put(strconv.Itoa(i), strconv.Itoa(-i)))
		}
		applied(t, s, at(1, 1), l...)
		if s.Versions() != many {
			t.Error(many, s.Versions())
		}
		for _, w := range l {
			wantLast(t, s, w, at(1, 1))
		}
	}
}

// TestPushMemory (P10.1, P3): a caller that changes its writes behind Push changes nothing, and Push and Step change nothing of the caller's.
func TestPushMemory(t *testing.T) {
	s := fresh(t, 3)
	room := append(make([]item.Write, 0, 4), put("k", "kept"), gone("z"), put("spare", "spare"), put("room", "room"))
	l := room[:2]
	if !s.Push(at(1, 1), l) || !slices.Equal(room, list(put("k", "kept"), gone("z"), put("spare", "spare"), put("room", "room"))) {
		t.Fatal(room)
	}
	l[0], l[1] = put("k", "changed"), put("z", "changed")
	if !s.Push(at(1, 2), l[1:]) {
		t.Fatal("Push")
	}
	clear(room)
	if !s.Step() || !s.Step() || !slices.Equal(room, make([]item.Write, 4)) {
		t.Fatal(room)
	}
	wantRead(t, s, "k", vec.Vec{1}, "kept", "1@1,0,0,0")
	wantRead(t, s, "z", vec.Vec{1}, "-", "1@1,0,0,0")
	wantLast(t, s, put("z", "changed"), at(1, 2))
	if s.Versions() != 3 {
		t.Error(s.Versions())
	}
	wantNone(t, s, "b", "spare")
}

// TestPushTexts (P3): the texts are not kept: what they are cut out of is kept by nobody.
func TestPushTexts(t *testing.T) {
	s := fresh(t, 1)
	text := strings.Repeat("bkv", 1000)
	w := item.Write{Bucket: text[:1], Key: text[1:2], Value: text[2:3]}
	applied(t, s, at(1, 1), w)
	got, _, ok := s.Last("b", "k")
	if !ok || got != w {
		t.Fatal(got, ok)
	}
	if unsafe.StringData(got.Bucket) == unsafe.StringData(w.Bucket) || unsafe.StringData(got.Key) == unsafe.StringData(w.Key) || unsafe.StringData(got.Value) == unsafe.StringData(w.Value) {
		t.Error("a text is the caller's")
	}
	asked, _, _ := s.Last(text[:1], text[1:2])
	if unsafe.StringData(asked.Bucket) == unsafe.StringData(text) || unsafe.StringData(asked.Key) == unsafe.StringData(text[1:]) {
		t.Error("a text of the answer is the question's")
	}
}

// TestStepOrder (P10.2): what waits is applied in the order in which it was pushed, whatever its stamps; each once.
func TestStepOrder(t *testing.T) {
	stamps := []stamp.Stamp{at(1, 3), at(2, 3, 1), at(1, 1), at(1, 2), at(4, 0, 0, 0, 5)}
	s := fresh(t, len(stamps))
	for i, st := range stamps {
		if !s.Push(st, list(put("k"+strconv.Itoa(i), "v"))) {
			t.Fatal(st)
		}
	}
	want := []vec.Vec{{3}, {3, 1}, {3, 1}, {3, 1}, {3, 1, 0, 5}}
	for i, st := range stamps {
		if !s.Step() || s.Applied() != want[i] || s.Versions() != i+1 {
			t.Error(i, s.Applied(), s.Versions())
		}
		wantLast(t, s, put("k"+strconv.Itoa(i), "v"), st)
		if i+1 < len(stamps) {
			wantNone(t, s, "b", "k"+strconv.Itoa(i+1))
		}
	}
	if s.Step() {
		t.Error("Step")
	}
}

// TestApplied (P10.2): of each datacenter the greatest number that was applied, in whatever order; what its stamps had seen of others counts not.
func TestApplied(t *testing.T) {
	for dc := 1; dc <= api.MaxDCs; dc++ {
		s := fresh(t, 1)
		greatest := uint64(0)
		for _, n := range []uint64{2, 1, 2, 5, 3, 4, vec.Most - 1, 9, vec.Most, 1} {
			st := stamp.Stamp{Vec: vec.With(vec.Vec{8, 8, 8, 8}, dc, n), DC: dc}
			applied(t, s, st, put("k", "v"))
			greatest = max(greatest, n)
			if s.Applied() != vec.With(vec.Vec{}, dc, greatest) {
				t.Error(st, s.Applied())
			}
		}
	}
	s := fresh(t, 1)
	for _, x := range []struct {
		st   stamp.Stamp
		want vec.Vec
	}{
		{at(1, 2, 9, 9, 9), vec.Vec{2}},
		{at(2, 9, 1, 9, 9), vec.Vec{2, 1}},
		{at(4, 9, 9, 9, 4), vec.Vec{2, 1, 0, 4}},
		{at(1, 1, 9, 9, 9), vec.Vec{2, 1, 0, 4}},
		{at(3, 9, 9, 3, 9), vec.Vec{2, 1, 3, 4}},
		{at(1, 3), vec.Vec{3, 1, 3, 4}},
		{at(4, 0, 0, 0, 4), vec.Vec{3, 1, 3, 4}},
	} {
		applied(t, s, x.st)
		if s.Applied() != x.want {
			t.Error(x.st, s.Applied(), x.want)
		}
	}
}

// TestTwice (P10.2): one stamp pushed twice, with other values: a version that is there stays, and what is written of other keys is added.
func TestTwice(t *testing.T) {
	s := fresh(t, 2)
	if !s.Push(at(1, 1), list(put("k", "first"), gone("z"))) || !s.Push(at(1, 1), list(put("k", "second"), put("z", "second"), put("other", "second"))) {
		t.Fatal("Push")
	}
	if !s.Step() || s.Versions() != 2 || !s.Step() || s.Versions() != 3 || s.Applied() != (vec.Vec{1}) {
		t.Error(s.Versions(), s.Applied())
	}
	wantLast(t, s, put("k", "first"), at(1, 1))
	wantLast(t, s, gone("z"), at(1, 1))
	wantLast(t, s, put("other", "second"), at(1, 1))
	applied(t, s, at(1, 1), gone("k"))
	wantRead(t, s, "k", vec.Vec{1}, "first", "1@1,0,0,0")
	if s.Versions() != 3 {
		t.Error(s.Versions())
	}
}

// TestKeyTwice (P10.2): of two writes of one key in one Push the first one is the version.
func TestKeyTwice(t *testing.T) {
	s := fresh(t, 1)
	applied(t, s, at(1, 1), put("k", "first"), put("z", "v"), put("k", "second"), gone("k"), gone("x"), put("x", "second"))
	if s.Versions() != 3 {
		t.Error(s.Versions())
	}
	wantLast(t, s, put("k", "first"), at(1, 1))
	wantLast(t, s, gone("x"), at(1, 1))
	wantRead(t, s, "x", vec.Vec{1}, "-", "1@1,0,0,0")
}

// TestRead (P10.3): a snapshot that has seen none, some, all: of those that it has seen the one over all others, gone or not.
func TestRead(t *testing.T) {
	s := fresh(t, 1)
	applied(t, s, at(1, 1), put("k", "1"), put("only", "1"))
	applied(t, s, at(2, 1, 1), gone("k"))
	applied(t, s, at(1, 2), put("k", "2"), gone("never"))
	applied(t, s, at(3, 2, 1, 1), put("k", ""), put("only", "3"))
	for _, x := range []struct {
		key         string
		by          vec.Vec
		value, text string
	}{
		{"k", vec.Vec{}, "", ""},
		{"k", vec.Vec{0, 9, 9, 9}, "", ""},
		{"k", vec.Vec{1}, "1", "1@1,0,0,0"},
		{"k", vec.Vec{1, 0, 9, 9}, "1", "1@1,0,0,0"},
		{"k", vec.Vec{1, 1}, "-", "2@1,1,0,0"},
		{"k", vec.Vec{1, math.MaxUint64}, "-", "2@1,1,0,0"},
		{"k", vec.Vec{2}, "2", "1@2,0,0,0"},
		{"k", vec.Vec{2, 1}, "-", "2@1,1,0,0"},
		{"k", vec.Vec{2, 1, 1}, "", "3@2,1,1,0"},
		{"k", beyondAll(), "", "3@2,1,1,0"},
		{"only", vec.Vec{}, "", ""},
		{"only", vec.Vec{2, 1}, "1", "1@1,0,0,0"},
		{"only", vec.Vec{2, 1, 1}, "3", "3@2,1,1,0"},
		{"never", vec.Vec{1, 9, 9, 9}, "", ""},
		{"never", vec.Vec{2}, "-", "1@2,0,0,0"},
		{"never", beyondAll(), "-", "1@2,0,0,0"},
		{"none", beyondAll(), "", ""},
	} {
		wantRead(t, s, x.key, x.by, x.value, x.text)
	}
	if s.Versions() != 7 || s.Applied() != (vec.Vec{2, 1, 1}) {
		t.Error("Read changed it", s.Versions(), s.Applied())
	}
}

// TestNames (P10.2, P10.3): each bucket and key is a thing of its own, those too whose bytes are the same together.
func TestNames(t *testing.T) {
	names := []item.Write{{Bucket: "ab", Key: "c"}, {Bucket: "a", Key: "bc"}, {Bucket: "c", Key: "ab"}, {Bucket: "a", Key: "a"}, {Bucket: "b", Key: "a"}, {Bucket: "a", Key: "b"},
		{Bucket: "a", Key: "a\x00"}, {Bucket: "a\x00", Key: "a"}, {Bucket: "A", Key: "a"}, {Bucket: "é", Key: "a"}, {Bucket: "e\u0301", Key: "a"}, {Bucket: " a", Key: "a"}}
	s := fresh(t, 1)
	for i, w := range names {
		wantNone(t, s, w.Bucket, w.Key)
		w.Value = strconv.Itoa(i)
		applied(t, s, at(1, uint64(i+1)), w)
		if s.Versions() != i+1 {
			t.Error(s.Versions())
		}
	}
	for i, w := range names {
		w.Value = strconv.Itoa(i)
		wantLast(t, s, w, at(1, uint64(i+1)))
		if value, st, ok := s.Read(w.Bucket, w.Key, beyondAll()); value != w.Value || st != at(1, uint64(i+1)) || !ok {
			t.Error(w, value, st, ok)
		}
		if value, st, ok := s.Read(w.Bucket, w.Key, vec.Vec{uint64(i)}); value != "" || st != (stamp.Stamp{}) || ok {
			t.Error(w, value, st, ok)
		}
	}
	if s.Prune(beyondAll()) != 0 || s.Versions() != len(names) {
		t.Error("Prune", s.Versions())
	}
}

// TestNoNames (P10.3): names that no write may have are those of nothing, and asking leaves nothing behind.
func TestNoNames(t *testing.T) {
	s := fresh(t, 1)
	applied(t, s, at(1, 1), put("k", "v"))
	for _, x := range [][2]string{{"", ""}, {"b", ""}, {"", "k"}, {"bk", ""}, {"", "bk"}, {"k", "b"}, {"b", "K"}, {"b", long(1000)}, {long(1000), "k"}, {"b", "k\x00"}} {
		for range 2 {
			wantNone(t, s, x[0], x[1])
		}
	}
	if s.Versions() != 1 || len(s.chains) != 1 {
		t.Error(s.Versions(), len(s.chains))
	}
}

// TestLast (P10.3): the last by the order of stamps, not by that in which they were applied, whoever has seen it; gone or not.
func TestLast(t *testing.T) {
	s := fresh(t, 1)
	for _, x := range []struct {
		st   stamp.Stamp
		w    item.Write
		last item.Write
		by   stamp.Stamp
	}{
		{at(1, 2), put("k", "2"), put("k", "2"), at(1, 2)},
		{at(1, 1), put("k", "1"), put("k", "2"), at(1, 2)},
		{at(2, 1, 1), gone("k"), gone("k"), at(2, 1, 1)},
		{at(2, 0, 1), put("k", "0"), gone("k"), at(2, 1, 1)},
		{at(4, 0, 0, 0, 3), put("k", ""), put("k", ""), at(4, 0, 0, 0, 3)},
		{at(3, 0, 0, 3), gone("k"), put("k", ""), at(4, 0, 0, 0, 3)},
		{at(1, vec.Most), gone("k"), gone("k"), at(1, vec.Most)},
	} {
		applied(t, s, x.st, x.w)
		wantLast(t, s, x.last, x.by)
		wantNone(t, s, "b", "z")
	}
}

// TestPrune (P10.3): a horizon that has seen none, some, all; over all chains, and what it was is told by hand; pruning twice lets nothing go.
func TestPrune(t *testing.T) {
	for _, x := range []struct {
		horizon    vec.Vec
		gone, left int
	}{
		{vec.Vec{}, 0, 9},
		{vec.Vec{0, 0, 9, 9}, 0, 9},
		{vec.Vec{1}, 0, 9},
		{vec.Vec{0, 9}, 0, 9},
		{vec.Vec{2}, 2, 7},
		{vec.Vec{1, 1}, 1, 8},
		{vec.Vec{2, 1}, 3, 6},
		{vec.Vec{3, 9}, 5, 4},
		{beyondAll(), 5, 4},
	} {
		s := fresh(t, 2)
		applied(t, s, at(1, 1), put("k", "1"), put("z", "1"), put("one", "1"), put("x", "1"))
		applied(t, s, at(2, 1, 1), gone("x"))
		applied(t, s, at(1, 2), put("k", "2"), gone("z"))
		applied(t, s, at(1, 3, 1), put("k", "3"), put("z", "3"))
		if !s.Push(at(1, 4, 1), list(put("k", "4"))) || !s.Push(at(1, 5, 1), list(put("k", "5"))) {
			t.Fatal("Push")
		}
		if n := s.Prune(x.horizon); n != x.gone || s.Versions() != x.left {
			t.Error(x.horizon, n, s.Versions())
		}
		if n := s.Prune(x.horizon); n != 0 || s.Versions() != x.left {
			t.Error("twice", x.horizon, n, s.Versions())
		}
		wantCount(t, s, 2, 0)
		if s.Applied() != (vec.Vec{3, 1}) {
			t.Error(x.horizon, s.Applied())
		}
		wantLast(t, s, put("k", "3"), at(1, 3, 1))
		wantLast(t, s, put("z", "3"), at(1, 3, 1))
		wantLast(t, s, put("one", "1"), at(1, 1))
		wantLast(t, s, gone("x"), at(2, 1, 1))
		if !s.Step() || !s.Step() || s.Versions() != x.left+2 {
			t.Error("what waits has gone", x.horizon, s.Versions())
		}
		wantRead(t, s, "k", vec.Vec{4, 1}, "4", "1@4,1,0,0")
	}
}

// TestPrunedReads (P10.3): what went is read no more; what is read at the horizon, or beyond it, is as it was.
func TestPrunedReads(t *testing.T) {
	s := fresh(t, 1)
	applied(t, s, at(1, 1), put("k", "1"), put("z", "1"))
	applied(t, s, at(1, 2), gone("k"))
	applied(t, s, at(1, 3), put("k", "3"))
	if s.Prune(vec.Vec{2}) != 1 {
		t.Error("Prune")
	}
	wantRead(t, s, "k", vec.Vec{1}, "", "")
	wantRead(t, s, "k", vec.Vec{2}, "-", "1@2,0,0,0")
	wantRead(t, s, "k", vec.Vec{3}, "3", "1@3,0,0,0")
	wantRead(t, s, "z", vec.Vec{1}, "1", "1@1,0,0,0")
	applied(t, s, at(1, 1), put("k", "back"))
	wantRead(t, s, "k", vec.Vec{1}, "back", "1@1,0,0,0")
	if s.Applied() != (vec.Vec{3}) || s.Versions() != 4 {
		t.Error(s.Applied(), s.Versions())
	}
}

// TestWaits (P10.4): what waits is not read, however much of it waits, at no snapshot; what was applied is read from its stamp on, and not below it.
func TestWaits(t *testing.T) {
	s := fresh(t, api.MaxLane)
	stamps := []stamp.Stamp{at(1, 1), at(2, 1, 1), at(1, 2), at(3, 0, 0, 1), at(4, 2, 2, 2, 1), at(1, vec.Most)}
	for i, st := range stamps {
		if !s.Push(st, list(put("k", strconv.Itoa(i)), put("k"+strconv.Itoa(i), "v"))) {
			t.Fatal(st)
		}
		wantNone(t, s, "b", "k")
		wantNone(t, s, "b", "k"+strconv.Itoa(i))
		if s.Versions() != 0 || s.Applied() != (vec.Vec{}) || s.Prune(beyondAll()) != 0 {
			t.Error(st, s.Versions(), s.Applied())
		}
	}
	for i, st := range stamps {
		wantNone(t, s, "b", "k"+strconv.Itoa(i))
		if !s.Step() {
			t.Fatal(st)
		}
		key := "k" + strconv.Itoa(i)
		for _, by := range []vec.Vec{st.Vec, vec.Join(st.Vec, vec.Vec{1, 2, 3, 4}), beyondAll()} {
			wantRead(t, s, key, by, "v", stamp.Text(st))
		}
		for dc := 1; dc <= api.MaxDCs; dc++ {
			if n := vec.At(st.Vec, dc); n > 0 {
				wantRead(t, s, key, vec.With(beyondAll(), dc, n-1), "", "")
			}
		}
	}
}

// TestOrders (P10.3): applied in one order and in another, all is read alike.
func TestOrders(t *testing.T) {
	txns := []item.Txn{
		{Stamp: at(1, 1), Writes: list(put("k", "1"), put("z", "1"))},
		{Stamp: at(2, 0, 1), Writes: list(put("k", "2"), gone("x"))},
		{Stamp: at(2, 1, 2), Writes: list(gone("k"), put("x", "3"))},
		{Stamp: at(1, 2), Writes: list(put("k", "4"))},
		{Stamp: at(3, 2, 2, 1), Writes: list(put("z", ""), item.Write{Bucket: "c", Key: "k", Value: "5"})},
	}
	var snapshots []vec.Vec
	for i := range uint64(3 * 3 * 2) {
		snapshots = append(snapshots, vec.Vec{i % 3, i / 3 % 3, i / 9})
	}
	want := tell(t, txns, snapshots)
	chance := rand.New(rand.NewSource(10))
	for range 60 {
		chance.Shuffle(len(txns), func(i, j int) { txns[i], txns[j] = txns[j], txns[i] })
		if got := tell(t, txns, snapshots); got != want {
			t.Fatal(txns, got, want)
		}
	}
}

// tell is all that a shard answers, in one text, once those are applied, and once it is pruned, too.
func tell(t *testing.T, txns []item.Txn, snapshots []vec.Vec) string {
	t.Helper()
	s := fresh(t, len(txns))
	for _, x := range txns {
		if !s.Push(x.Stamp, x.Writes) {
			t.Fatal(x)
		}
	}
	for range txns {
		if !s.Step() {
			t.Fatal("Step")
		}
	}
	var out strings.Builder
	for range 2 {
		for _, bucket := range []string{"b", "c"} {
			for _, key := range []string{"k", "z", "x", "none"} {
				for _, by := range snapshots {
					value, st, ok := s.Read(bucket, key, by)
					out.WriteString(value + " " + stamp.Text(st) + " " + strconv.FormatBool(ok) + "\n")
				}
				w, st, ok := s.Last(bucket, key)
				out.WriteString(w.Bucket + w.Key + w.Value + " " + strconv.FormatBool(w.Gone) + " " + stamp.Text(st) + " " + strconv.FormatBool(ok) + "\n")
			}
		}
		out.WriteString(vec.Text(s.Applied()) + " " + strconv.Itoa(s.Versions()) + " " + strconv.Itoa(s.Prune(vec.Vec{1, 2})) + "\n")
	}
	return out.String()
}

// TestApart (P10.1): what is done to one shard changes nothing of another one.
func TestApart(t *testing.T) {
	a, b := fresh(t, 2), fresh(t, 2)
	applied(t, a, at(1, 1), put("k", "a"))
	if a == b || !a.Push(at(1, 2), list(put("k", "a"))) || b.Step() || b.Versions() != 0 || b.Applied() != (vec.Vec{}) {
		t.Error("not apart")
	}
	wantCount(t, b, 0, 2)
	wantNone(t, b, "b", "k")
	applied(t, b, at(1, 1), put("k", "b"))
	applied(t, b, at(2, 1, 1), put("k", "b"))
	if b.Prune(beyondAll()) != 1 || a.Versions() != 1 || a.Applied() != (vec.Vec{1}) {
		t.Error("not apart")
	}
	wantCount(t, a, 1, 1)
	wantLast(t, a, put("k", "a"), at(1, 1))
}

// version is one of the model's.
type version struct {
	st stamp.Stamp
	w  item.Write
}

// model has what waits and all versions in plain lists, and looks through all of them for each answer.
type model struct {
	room     int
	waiting  []item.Txn
	versions []version
	applied  vec.Vec
}

func (m *model) push(st stamp.Stamp, l []item.Write) bool {
	for _, w := range l {
		if !item.Right(w) {
			return false
		}
	}
	if !stamp.Right(st) || len(m.waiting) == m.room {
		return false
	}
	m.waiting = append(m.waiting, item.Txn{Stamp: st, Writes: append([]item.Write(nil), l...)})
	return true
}

func (m *model) step() bool {
	if len(m.waiting) == 0 {
		return false
	}
	first := m.waiting[0]
	m.waiting = m.waiting[1:]
	for _, w := range first.Writes {
		same := func(v version) bool {
			return v.st == first.Stamp && v.w.Bucket == w.Bucket && v.w.Key == w.Key
		}
		if !slices.ContainsFunc(m.versions, same) {
			m.versions = append(m.versions, version{first.Stamp, w})
		}
	}
	if n := first.Stamp.Vec[first.Stamp.DC-1]; n > m.applied[first.Stamp.DC-1] {
		m.applied[first.Stamp.DC-1] = n
	}
	return true
}

func (m *model) read(bucket, key string, by vec.Vec) (told version, also bool) {
	for _, v := range m.versions {
		if v.w.Bucket != bucket || v.w.Key != key || !stamp.Seen(v.st, by) {
			continue
		}
		if !also || stamp.Order(v.st, told.st) > 0 {
			told, also = v, true
		}
	}
	return told, also
}

func (m *model) prune(horizon vec.Vec) int {
	var rest []version
	for _, v := range m.versions {
		stays, _ := m.read(v.w.Bucket, v.w.Key, horizon)
		if !stamp.Seen(v.st, horizon) || v.st == stays.st {
			rest = append(rest, v)
		}
	}
	out := len(m.versions) - len(rest)
	m.versions = rest
	return out
}

// holds: does s answer as m does, at all those snapshots?
func holds(t *testing.T, s *Shard, m *model, snapshots []vec.Vec) {
	t.Helper()
	wantCount(t, s, len(m.waiting), m.room-len(m.waiting))
	if s.Applied() != m.applied || s.Versions() != len(m.versions) {
		t.Fatal("Applied, Versions", s.Applied(), m.applied, s.Versions(), len(m.versions))
	}
	for _, bucket := range []string{"b", "c"} {
		for _, key := range []string{"k", "z", "none"} {
			last, any := m.read(bucket, key, beyondAll())
			if w, st, ok := s.Last(bucket, key); w != last.w || st != last.st || ok != any {
				t.Fatal("Last", bucket, key, w, st, ok, last, any)
			}
			for _, by := range snapshots {
				want, any := m.read(bucket, key, by)
				value, st, ok := s.Read(bucket, key, by)
				if value != want.w.Value || st != want.st || ok != (any && !want.w.Gone) {
					t.Fatal("Read", bucket, key, by, value, st, ok, want, any)
				}
			}
		}
	}
}

// script makes arguments, right ones and wrong ones among them.
type script struct {
	chance *rand.Rand
}

func (x script) vec() (out vec.Vec) {
	numbers := []uint64{0, 0, 1, 1, 2, 2, 3, 3, 4, 5, vec.Most - 1, vec.Most, vec.Most + 1, math.MaxUint64}
	for i := range out {
		out[i] = numbers[x.chance.Intn(10+x.chance.Intn(5))]
	}
	return out
}

func (x script) stamp() stamp.Stamp {
	return stamp.Stamp{Vec: x.vec(), DC: x.chance.Intn(api.MaxDCs+2) - x.chance.Intn(2)}
}

func (x script) write() item.Write {
	if x.chance.Intn(30) == 0 {
		return wrongWrites()[x.chance.Intn(len(wrongWrites()))]
	}
	w := item.Write{Bucket: []string{"b", "c"}[x.chance.Intn(2)], Key: []string{"k", "z"}[x.chance.Intn(2)]}
	if x.chance.Intn(4) == 0 {
		w.Gone = true
		return w
	}
	w.Value = strconv.Itoa(x.chance.Intn(100))
	return w
}

func (x script) writes() (out []item.Write) {
	for range x.chance.Intn(4) {
		out = append(out, x.write())
	}
	return out
}

// tried counts what a script did.
type tried struct {
	pushed, refused, stepped, pruned int
}

// does one call of both, and holds their answers against one another.
func (x script) does(t *testing.T, s *Shard, m *model, many *tried) {
	t.Helper()
	switch x.chance.Intn(12) {
	case 0:
		horizon := x.vec()
		got, want := s.Prune(horizon), m.prune(horizon)
		if got != want {
			t.Fatal("Prune", horizon, got, want)
		}
		many.pruned += got
	case 1, 2, 3, 4:
		got, want := s.Step(), m.step()
		if got != want {
			t.Fatal("Step", got, want)
		}
		if got {
			many.stepped++
		}
	default:
		st, l := x.stamp(), x.writes()
		got, want := s.Push(st, l), m.push(st, l)
		if got != want {
			t.Fatal("Push", st, l, got, want)
		}
		clear(l)
		if got {
			many.pushed++
		} else {
			many.refused++
		}
	}
}

// TestScripts (P10.1 to P10.4): long scripts of all calls, answer by answer as the chapter's words do.
func TestScripts(t *testing.T) {
	x := script{rand.New(rand.NewSource(100))}
	var many tried
	for range 200 {
		room := 1 + x.chance.Intn(api.MaxLane)
		s, m := fresh(t, room), &model{room: room}
		for range 60 {
			x.does(t, s, m, &many)
			holds(t, s, m, []vec.Vec{{}, x.vec(), x.vec(), x.vec(), beyondAll()})
		}
	}
	if many.pushed < 1000 || many.refused < 1000 || many.stepped < 1000 || many.pruned < 100 {
		t.Fatal("too few were tried", many)
	}
}
