package lane

import (
	"errors"
	"math"
	"slices"
	"strconv"
	"strings"
	"testing"
	"time"

	"tenement/api"
)

// pair is a thing of several fields, to be handed on as one.
type pair struct {
	name string
	many int
}

// fresh is a lane with nothing in it.
func fresh[T any](t *testing.T, room int) *Lane[T] {
	t.Helper()
	l, e := New[T](room)
	if l == nil || e != api.OK {
		t.Fatalf("New(%d) = %v, %d", room, l, e)
	}
	wantCount(t, l, 0, room)
	return l
}

// wantCount asks Len and Room.
func wantCount[T any](t *testing.T, l *Lane[T], many, room int) {
	t.Helper()
	if l.Len() != many || l.Room() != room {
		t.Errorf("Len, Room = %d, %d; want %d, %d", l.Len(), l.Room(), many, room)
	}
}

// twin is a lane beside a plain list that says what the lane must answer; each of its calls asks Len and Room behind it.
type twin[T comparable] struct {
	t    *testing.T
	lane *Lane[T]
	room int
	list []T
}

func newTwin[T comparable](t *testing.T, room int) *twin[T] {
	t.Helper()
	return &twin[T]{t: t, lane: fresh[T](t, room), room: room}
}

func (w *twin[T]) put(x T) {
	w.t.Helper()
	want := len(w.list) < w.room
	if want {
		w.list = append(w.list, x)
	}
	if got := w.lane.Put(x); got != want {
		w.t.Errorf("room %d: Put(%v) = %v; want %v", w.room, x, got, want)
	}
	wantCount(w.t, w.lane, len(w.list), w.room)
}

func (w *twin[T]) take() {
	w.t.Helper()
	var want T
	some := len(w.list) > 0
	if some {
		want, w.list = w.list[0], w.list[1:]
	}
	if got, ok := w.lane.Take(); got != want || ok != some {
		w.t.Errorf("room %d: Take() = %v, %v; want %v, %v", w.room, got, ok, want, some)
	}
	wantCount(w.t, w.lane, len(w.list), w.room)
}

func (w *twin[T]) drain() {
	w.t.Helper()
	if got := w.lane.Drain(); !slices.Equal(got, w.list) {
		w.t.Errorf("room %d: Drain() = %v; want %v", w.room, got, w.list)
	}
	w.list = nil
	wantCount(w.t, w.lane, 0, w.room)
}

// fill puts till the lane is full, and twice more, each thing another one.
func (w *twin[T]) fill(thing func(i int) T) {
	w.t.Helper()
	for i := range w.room + 2 {
		w.put(thing(i))
	}
}

// atOnce panics if what it is given waits: the tests behind it would wait as well, and the run must end soon.
func atOnce(what string, call func()) {
	done := make(chan struct{})
	go func() {
		defer close(done)
		call()
	}()
	select {
	case <-done:
	case <-time.After(20 * time.Second):
		panic(what + " waits")
	}
}

// TestNoCallWaits (P5.2): what can not be done at once is told so, again and again; the rest is done at once, with nobody else there.
func TestNoCallWaits(t *testing.T) {
	for _, room := range []int{1, 2, 15, 16} {
		w := newTwin[int](t, room)
		atOnce("Take of an empty lane", func() { w.take(); w.take() })
		atOnce("Drain of an empty lane", func() { w.drain(); w.drain() })
		atOnce("Put into an empty lane", func() { w.put(1) })
		atOnce("Take of the one left", func() { w.take() })
		atOnce("Put into a full lane", func() { w.fill(func(i int) int { return i }) })
		atOnce("Len or Room of a full lane", func() { wantCount(t, w.lane, room, room) })
		atOnce("Take of a full lane", func() { w.take() })
		atOnce("Put behind a Take", func() { w.put(2); w.put(3) })
		atOnce("Drain of a full lane", func() { w.drain() })
		atOnce("Take behind Drain", func() { w.take() })
		atOnce("Put behind Drain", func() { w.put(4) })
	}
}

// TestNew (P5.1): each room from 1 to MaxLane is that lane's, with nothing in it.
func TestNew(t *testing.T) {
	if api.MaxLane != 16 {
		t.Fatalf("MaxLane is %d", api.MaxLane)
	}
	for room := 1; room <= 16; room++ {
		l := fresh[int](t, room)
		if x, ok := l.Take(); x != 0 || ok {
			t.Errorf("room %d: Take of a new one = %v, %v", room, x, ok)
		}
		wantCount(t, l, 0, room)
	}
}

// TestNewWrong (P5.1, P6): a room below 1, above MaxLane, and such as would be right in fewer bits.
func TestNewWrong(t *testing.T) {
	wrong := []int{0, -1, -2, -16, -17, 17, 18, 32, 256, 257, 272, 1 << 16, 1<<16 + 1, 1<<32 + 1, 1<<32 + 16,
		-1<<32 + 1, math.MaxInt32, math.MinInt32, math.MaxInt, math.MaxInt - 1, math.MinInt, math.MinInt + 1, math.MinInt + 16}
	for _, room := range wrong {
		if l, e := New[int](room); l != nil || e != api.ErrArg {
			t.Errorf("New[int](%d) = %v, %d; want nil, ErrArg", room, l, e)
		}
		if l, e := New[struct{}](room); l != nil || e != api.ErrArg {
			t.Errorf("New[struct{}](%d) = %v, %d; want nil, ErrArg", room, l, e)
		}
		if l, e := New[[]string](room); l != nil || e != api.ErrArg {
			t.Errorf("New[[]string](%d) = %v, %d; want nil, ErrArg", room, l, e)
		}
	}
}

// TestExample (P5.1): the chapter's example.
func TestExample(t *testing.T) {
	l := fresh[string](t, 3)
	if x, ok := l.Take(); x != "" || ok {
		t.Errorf("Take of a new one = %q, %v; want nothing, and false", x, ok)
	}
	wantCount(t, l, 0, 3)
}

// TestKnown (P5.1, P5.3): calls with their answers written out.
func TestKnown(t *testing.T) {
	l := fresh[string](t, 2)
	if !l.Put("a") || !l.Put("b") || l.Put("c") {
		t.Error("Put of three into room for two")
	}
	if x, ok := l.Take(); x != "a" || !ok {
		t.Errorf("the first is %q, %v", x, ok)
	}
	if !l.Put("d") || l.Put("e") {
		t.Error("Put behind a Take of a full one")
	}
	wantCount(t, l, 2, 2)
	if got := l.Drain(); !slices.Equal(got, []string{"b", "d"}) {
		t.Errorf("Drain() = %q", got)
	}
	wantCount(t, l, 0, 2)
	if !l.Put("f") {
		t.Error("Put behind Drain")
	}
	if x, ok := l.Take(); x != "f" || !ok {
		t.Errorf("behind Drain the first is %q, %v", x, ok)
	}
	wantCount(t, l, 0, 2)
}

// allWays goes through a lane's edges at one room: empty, one in it, one left, full, and empty once more.
func allWays[T comparable](t *testing.T, room int, thing func(i int) T) {
	t.Helper()
	w := newTwin[T](t, room)
	w.take()
	w.take()
	w.drain()
	w.drain()
	w.put(thing(0))
	w.take()
	w.take()
	w.fill(thing)
	w.take()
	w.put(thing(50))
	w.put(thing(51))
	for range room + 1 {
		w.take()
	}
	// What is left in the channel's ring does not stand at its start any more: all its room must be there yet.
	w.fill(thing)
	w.drain()
	w.put(thing(60))
	w.drain()
	w.fill(thing)
	w.take()
	w.drain()
	w.take()
	w.fill(thing)
}

// TestEdges (P5.1 to P5.3): at each room, of several types.
func TestEdges(t *testing.T) {
	things := make([]int, 100)
	for room := 1; room <= api.MaxLane; room++ {
		allWays(t, room, func(i int) int { return i + 1 })
		allWays(t, room, func(i int) string { return strings.Repeat("x", i%3) + strconv.Itoa(i) })
		allWays(t, room, func(i int) pair { return pair{strconv.Itoa(i), -i} })
		allWays(t, room, func(i int) *int { return &things[i] })
		allWays(t, room, func(i int) [3]uint64 { return [3]uint64{uint64(i), math.MaxUint64, 1} })
		allWays(t, room, func(i int) bool { return i%3 == 0 })
		allWays(t, room, func(i int) any { return []any{i, "text", pair{"p", i}, nil}[i%4] })
		allWays(t, room, func(i int) api.Errno { return api.Errno(i % 11) })
		allWays(t, room, func(int) struct{} { return struct{}{} })
	}
}

// TestZeros (P5.1, P5.3): things that look like nothing are things: each counts, and is told with true.
func TestZeros(t *testing.T) {
	allWays(t, 3, func(int) int { return 0 })
	allWays(t, 3, func(int) string { return "" })
	allWays(t, 3, func(int) *int { return nil })
	allWays(t, 3, func(int) any { return nil })
	allWays(t, 3, func(int) error { return nil })
	allWays(t, 3, func(i int) error { return []error{nil, errors.ErrUnsupported}[i%2] })
	allWays(t, 3, func(int) pair { return pair{} })
	slicesOf := fresh[[]int](t, 1)
	if !slicesOf.Put(nil) {
		t.Error("Put(nil)")
	}
	wantCount(t, slicesOf, 1, 1)
	if x, ok := slicesOf.Take(); x != nil || !ok {
		t.Errorf("Take() = %v, %v; want nil, true", x, ok)
	}
	wantCount(t, slicesOf, 0, 1)
}

// TestEachScript (P5.1 to P5.3): each order of eight calls, at the least rooms.
func TestEachScript(t *testing.T) {
	const calls = 8
	all := 1
	for range calls {
		all *= 3
	}
	for room := 1; room <= 3; room++ {
		for script := range all {
			w := newTwin[int](t, room)
			for i, rest := 0, script; i < calls; i, rest = i+1, rest/3 {
				switch rest % 3 {
				case 0:
					w.put(100 + i)
				case 1:
					w.take()
				case 2:
					w.drain()
				}
			}
			if t.Failed() {
				t.Fatalf("script %d", script)
			}
		}
	}
}

// TestLongScript (P5.1 to P5.3): at each room, calls by a rule that repeats late, now more puts, now more takes.
func TestLongScript(t *testing.T) {
	for room := 1; room <= api.MaxLane; room++ {
		w := newTwin[int](t, room)
		x := uint32(room)
		for i := range 5000 {
			x = x*1664525 + 1013904223
			choice := int(x>>24) % 64
			puts := 20 + 24*(i/100%2)
			switch {
			case choice == 63:
				w.drain()
			case choice < puts:
				w.put(i + 1)
			default:
				w.take()
			}
		}
	}
}

// TestInTurn (P5.3): things put and taken in turn, many more than there is room for, come in order, each once.
func TestInTurn(t *testing.T) {
	for room := 1; room <= api.MaxLane; room++ {
		for held := range room {
			w := newTwin[int](t, room)
			for i := range held {
				w.put(-1 - i)
			}
			for i := range 100 {
				w.put(i)
				w.take()
			}
			w.drain()
		}
	}
}

// TestDrainSome (P5.1): at each room, of each number in it, wherever they stand in the ring; behind it the lane is as a new one.
func TestDrainSome(t *testing.T) {
	for room := 1; room <= api.MaxLane; room++ {
		for gone := range room + 1 {
			for many := range room + 1 {
				w := newTwin[int](t, room)
				for i := range gone {
					w.put(-1 - i)
					w.take()
				}
				for i := range many {
					w.put(i + 1)
				}
				w.drain()
				w.drain()
				w.take()
				w.fill(func(i int) int { return 1000 + i })
				w.drain()
			}
		}
	}
}

// TestApart (P5.1): what is done with one lane changes no other one, be it of the same type and room.
func TestApart(t *testing.T) {
	a, b := newTwin[int](t, 2), newTwin[int](t, 2)
	a.put(1)
	b.take()
	b.put(2)
	b.put(3)
	b.put(4)
	a.put(5)
	a.take()
	b.drain()
	a.drain()
	b.put(6)
	a.take()
	b.take()
}

// TestValue (P3): a thing is handed on by value: what becomes of the variable it was put from changes nothing in the lane.
func TestValue(t *testing.T) {
	l := fresh[[2]pair](t, 2)
	x := [2]pair{{"a", 1}, {"b", 2}}
	l.Put(x)
	x[0] = pair{"c", 3}
	l.Put(x)
	x[1].many = 9
	if got := l.Drain(); !slices.Equal(got, [][2]pair{{{"a", 1}, {"b", 2}}, {{"c", 3}, {"b", 2}}}) {
		t.Errorf("Drain() = %v", got)
	}
}

// TestSameThing (P3): a slice, a map, a function that was put is the value itself when it is taken, spare room too; nothing is written into it.
func TestSameThing(t *testing.T) {
	lists := fresh[[]int](t, 2)
	room := []int{1, 2, 3, 4, 5}
	lists.Put(room[1:3])
	if got, ok := lists.Take(); !ok || len(got) != 2 || cap(got) != 4 || &got[0] != &room[1] {
		t.Errorf("Take() = %v of %d, %v", got, cap(got), ok)
	}
	lists.Put(room[1:3])
	if got := lists.Drain(); len(got) != 1 || len(got[0]) != 2 || cap(got[0]) != 4 || &got[0][0] != &room[1] {
		t.Errorf("Drain() = %v", got)
	}
	if !slices.Equal(room, []int{1, 2, 3, 4, 5}) {
		t.Errorf("what was handed in is %v now", room)
	}
	maps := fresh[map[string]int](t, 1)
	named := map[string]int{"a": 1}
	maps.Put(named)
	if got, ok := maps.Take(); !ok || len(got) != 1 {
		t.Errorf("Take() = %v, %v", got, ok)
	} else if named["b"] = 2; got["b"] != 2 {
		t.Error("the map that was taken is not the one that was put")
	}
	calls := fresh[func() int](t, 1)
	calls.Put(func() int { return 7 })
	if got, ok := calls.Take(); !ok || got == nil || got() != 7 {
		t.Errorf("Take of a function tells %v", ok)
	}
	if got, ok := calls.Take(); ok || got != nil {
		t.Errorf("Take of no function tells %v", ok)
	}
}

// TestDrainOwn (P3): what Drain answers is new memory, spare room too: whoever writes into it changes nothing in the lane, nor in another answer.
func TestDrainOwn(t *testing.T) {
	for _, room := range []int{1, 3, 16} {
		w := newTwin[int](t, room)
		w.fill(func(i int) int { return i + 1 })
		first := w.lane.Drain()
		kept := slices.Clone(first)
		w.list = nil
		w.fill(func(i int) int { return 100 + i })
		if !slices.Equal(first, kept) {
			t.Errorf("what Drain answered is %v now", first)
		}
		whole := first[:cap(first)]
		for i := range whole {
			whole[i] = -1
		}
		w.drain()
		none := w.lane.Drain()
		for i := range none[:cap(none)] {
			none[:cap(none)][i] = -1
		}
		w.fill(func(i int) int { return 200 + i })
		w.drain()
	}
}

// TestLaneOfLanes (P5.1): a lane is a thing, too.
func TestLaneOfLanes(t *testing.T) {
	outer := fresh[*Lane[int]](t, 2)
	inner := fresh[int](t, 1)
	inner.Put(5)
	outer.Put(inner)
	got, ok := outer.Take()
	if !ok || got != inner {
		t.Fatal("the lane that was taken is not the one that was put")
	}
	wantCount(t, got, 1, 1)
}

// TestBigThings (P5.1, P5.3): things of many bytes, in as many as there may be.
func TestBigThings(t *testing.T) {
	allWays(t, api.MaxLane, func(i int) (x [1 << 15]byte) {
		x[0], x[len(x)-1] = byte(i), byte(-i)
		return x
	})
}
