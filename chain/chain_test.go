package chain

import (
	"math"
	"math/big"
	"math/rand"
	"slices"
	"strconv"
	"testing"

	"tenement/api"
	"tenement/stamp"
	"tenement/vec"
)

// at is a stamp of that datacenter.
func at(dc int, numbers ...uint64) stamp.Stamp {
	s := stamp.Stamp{DC: dc}
	copy(s.Vec[:], numbers)
	return s
}

// beyondAll has seen whatever is right; it is not right itself, and need not be.
func beyondAll() vec.Vec {
	return vec.Vec{math.MaxUint64, math.MaxUint64, math.MaxUint64, math.MaxUint64}
}

// rising: right stamps by the order of the chapter, written down by hand: by sum, then datacenter, then the numbers; the greatest there may be at the end.
func rising() []stamp.Stamp {
	return []stamp.Stamp{
		at(1, 1),
		at(2, 0, 1),
		at(3, 0, 0, 1),
		at(4, 0, 0, 0, 1),
		at(1, 1, 1),
		at(1, 2),
		at(2, 0, 2),
		at(2, 1, 1),
		at(4, 1, 0, 0, 1),
		at(1, 3, 2),
		at(2, 3, 2),
		at(1, 4, 2),
		at(1, 300, 128, 127, 16384),
		at(4, vec.Most, 0, 0, 1),
		at(1, vec.Most, vec.Most, vec.Most, vec.Most),
		at(4, vec.Most, vec.Most, vec.Most, vec.Most),
	}
}

// wrongStamps: its datacenter 0, below or too great, no number there, or a number that is too great.
func wrongStamps() []stamp.Stamp {
	return []stamp.Stamp{
		{},
		at(0, 1, 1, 1, 1),
		at(-1, 1, 1, 1, 1),
		at(-4, 1, 1, 1, 1),
		at(api.MaxDCs+1, 1, 1, 1, 1),
		at(257, 1, 1, 1, 1),
		at(1<<32+1, 1, 1, 1, 1),
		at(math.MinInt, 1, 1, 1, 1),
		at(math.MaxInt, 1, 1, 1, 1),
		at(1, 0, 9, 9, 9),
		at(2, 9, 0, 9, 9),
		at(3, 9, 9, 0, 9),
		at(4, 9, 9, 9, 0),
		at(1, vec.Most+1),
		at(1, 1, vec.Most+1),
		at(4, vec.Most+1, 0, 0, 1),
		at(2, 1, 1, 1<<63),
		at(1, math.MaxUint64, 1, 1, 1),
		at(4, math.MaxUint64, math.MaxUint64, math.MaxUint64, math.MaxUint64),
	}
}

// grid: every right stamp of numbers up to most at some datacenters.
func grid(most uint64, dcs ...int) []stamp.Stamp {
	var out []stamp.Stamp
	for _, v := range snapshots(most) {
		for _, dc := range dcs {
			if v[dc-1] > 0 {
				out = append(out, stamp.Stamp{Vec: v, DC: dc})
			}
		}
	}
	return out
}

// snapshots: every vector of numbers up to most.
func snapshots(most uint64) []vec.Vec {
	var out []vec.Vec
	for a := range most + 1 {
		for b := range most + 1 {
			for c := range most + 1 {
				for d := range most + 1 {
					out = append(out, vec.Vec{a, b, c, d})
				}
			}
		}
	}
	return out
}

// farSnapshots: beside those of the grid, some that are not right, and some that are great in some numbers alone.
func farSnapshots() []vec.Vec {
	const far = math.MaxUint64
	out := []vec.Vec{beyondAll(), {far}, {0, far}, {far, 1, 1}, {2, far, 0, far}, {0, 0, far, far}, {vec.Most, vec.Most, vec.Most, vec.Most},
		{vec.Most, vec.Most, vec.Most, vec.Most - 1}, {vec.Most + 1, 0, 0, 1}, {1 << 63, 1 << 63, 1 << 63, 1 << 63}, {300, 128, 127, 16384}, {300, 128, 127, 16383}}
	for _, s := range rising() {
		out = append(out, s.Vec)
	}
	return out
}

// model has versions in the order in which they came, and looks through all of them for each answer.
type model[V any] struct {
	versions []Version[V]
}

func (m *model[V]) add(s stamp.Stamp, v V) bool {
	right := s.DC >= 1 && s.DC <= api.MaxDCs
	for _, n := range s.Vec {
		right = right && n <= 1<<60
	}
	if !right || s.Vec[s.DC-1] < 1 {
		return false
	}
	for _, other := range m.versions {
		if other.Stamp.DC == s.DC && slices.Equal(other.Stamp.Vec[:], s.Vec[:]) {
			return false
		}
	}
	m.versions = append(m.versions, Version[V]{s, v})
	return true
}

// over: as chapter 7 says it, asked by hand, with sums that have room for all.
func over(a, b stamp.Stamp) bool {
	x, y := new(big.Int), new(big.Int)
	for i := range a.Vec {
		x.Add(x, new(big.Int).SetUint64(a.Vec[i]))
		y.Add(y, new(big.Int).SetUint64(b.Vec[i]))
	}
	if order := x.Cmp(y); order != 0 {
		return order > 0
	}
	if a.DC != b.DC {
		return a.DC > b.DC
	}
	for i := range a.Vec {
		if a.Vec[i] != b.Vec[i] {
			return a.Vec[i] > b.Vec[i]
		}
	}
	return false
}

func seen(s stamp.Stamp, by vec.Vec) bool {
	for i := range by {
		if s.Vec[i] > by[i] {
			return false
		}
	}
	return true
}

func (m *model[V]) read(by vec.Vec) (told Version[V], also bool) {
	for _, v := range m.versions {
		if seen(v.Stamp, by) && (!also || over(v.Stamp, told.Stamp)) {
			told, also = v, true
		}
	}
	return told, also
}

func (m *model[V]) prune(horizon vec.Vec) int {
	stays, _ := m.read(horizon)
	var rest []Version[V]
	for _, v := range m.versions {
		if !seen(v.Stamp, horizon) || v.Stamp == stays.Stamp {
			rest = append(rest, v)
		}
	}
	gone := len(m.versions) - len(rest)
	m.versions = rest
	return gone
}

func (m *model[V]) all() []Version[V] {
	var out []Version[V]
	for _, v := range m.versions {
		place := 0
		for place < len(out) && over(v.Stamp, out[place].Stamp) {
			place++
		}
		out = slices.Insert(out, place, v)
	}
	return out
}

// holds: does c answer as m does, at all those snapshots?
func holds[V comparable](t *testing.T, c *Chain[V], m *model[V], snapshots []vec.Vec) {
	t.Helper()
	if got, want := c.All(), m.all(); !slices.Equal(got, want) {
		t.Fatal("All", got, want)
	}
	if c.Len() != len(m.versions) {
		t.Fatal("Len", c.Len(), len(m.versions))
	}
	last, ok := c.Last()
	if want, any := m.read(beyondAll()); ok != any || last != want {
		t.Fatal("Last", last, ok, want, any)
	}
	for _, by := range snapshots {
		got, ok := c.Read(by)
		if want, any := m.read(by); ok != any || got != want {
			t.Fatal("Read", by, got, ok, want, any)
		}
	}
}

// of is a chain of those stamps, added in that order; a version's value is its text.
func of(t *testing.T, stamps []stamp.Stamp) *Chain[string] {
	t.Helper()
	c := New[string]()
	for _, s := range stamps {
		if !c.Add(s, stamp.Text(s)) {
			t.Fatal("Add", s)
		}
	}
	return c
}

// texts are the values of all versions, in order.
func texts(l []Version[string]) []string {
	var out []string
	for _, v := range l {
		out = append(out, v.Value)
	}
	return out
}

// TestNew (P9.1, P9.2): a new chain has no versions; the chapter's example: Read of a new one is false.
func TestNew(t *testing.T) {
	c := New[string]()
	for range 2 {
		for _, by := range append(snapshots(1), farSnapshots()...) {
			if v, ok := c.Read(by); ok || v != (Version[string]{}) {
				t.Fatal("Read", by, v, ok)
			}
			if n := c.Prune(by); n != 0 {
				t.Fatal("Prune", by, n)
			}
		}
		if v, ok := c.Last(); ok || v != (Version[string]{}) {
			t.Fatal("Last", v, ok)
		}
		if l := c.All(); len(l) != 0 {
			t.Fatal("All", l)
		}
		if c.Len() != 0 {
			t.Fatal("Len", c.Len())
		}
	}
	if !c.Add(at(1, 1), "first") || c.Len() != 1 {
		t.Fatal("Add behind Prune")
	}
}

// TestApart (P9.1): what is done to one chain changes nothing of another one.
func TestApart(t *testing.T) {
	a, b := New[int](), New[int]()
	if a == b || !a.Add(at(1, 1), 1) || b.Len() != 0 || !b.Add(at(1, 1), 2) {
		t.Fatal("not apart")
	}
	b.Add(at(2, 1, 1), 3)
	b.Prune(beyondAll())
	if v, _ := a.Last(); a.Len() != 1 || v != (Version[int]{at(1, 1), 1}) {
		t.Fatal(v)
	}
}

// TestOne (P9.1, P9.2): one version alone, of each right stamp: it is there, told from its vector on, and never goes.
func TestOne(t *testing.T) {
	for _, s := range append(rising(), grid(2, 1, 2, 3, 4)...) {
		c := of(t, []stamp.Stamp{s})
		want := Version[string]{s, stamp.Text(s)}
		if l := c.All(); c.Len() != 1 || len(l) != 1 || l[0] != want {
			t.Fatal(s, c.Len(), l)
		}
		if v, ok := c.Last(); !ok || v != want {
			t.Fatal("Last", s, v, ok)
		}
		for _, by := range []vec.Vec{s.Vec, vec.With(s.Vec, 1, s.Vec[0]+1), beyondAll()} {
			if v, ok := c.Read(by); !ok || v != want {
				t.Fatal("Read", s, by, v, ok)
			}
			if n := c.Prune(by); n != 0 || c.Len() != 1 {
				t.Fatal("Prune", s, by, n)
			}
		}
		for dc := 1; dc <= api.MaxDCs; dc++ {
			n := vec.At(s.Vec, dc)
			if n == 0 {
				continue
			}
			less := vec.With(beyondAll(), dc, n-1)
			if v, ok := c.Read(less); ok || v != (Version[string]{}) {
				t.Fatal("Read", s, less, v, ok)
			}
			if c.Prune(less) != 0 || c.Len() != 1 {
				t.Fatal("Prune", s, less)
			}
		}
	}
}

// pair is a value of more than one field.
type pair struct {
	name  string
	many  [2]int
	gone  bool
	float float64
}

// kinds tries a chain of values of one kind: in order, turned round, and with one added twice.
func kinds[V comparable](t *testing.T, value func(i int) V) {
	t.Helper()
	for _, turned := range []bool{false, true} {
		c, m := New[V](), &model[V]{}
		for i := range rising() {
			if turned {
				i = len(rising()) - 1 - i
			}
			s := rising()[i]
			if !c.Add(s, value(i)) || !m.add(s, value(i)) {
				t.Fatal("Add", s)
			}
			if c.Add(s, value(i+1)) {
				t.Fatal("Add twice", s)
			}
			holds(t, c, m, append(snapshots(2), farSnapshots()...))
		}
		for i, v := range c.All() {
			if v != (Version[V]{rising()[i], value(i)}) {
				t.Fatal(i, v)
			}
		}
	}
}

// TestKinds (P9.1, P9.2): chains of numbers, of texts, of structs, and of things that are all the same.
func TestKinds(t *testing.T) {
	kinds(t, func(i int) int { return 7 - i })
	kinds(t, func(i int) uint64 { return math.MaxUint64 - uint64(i) })
	kinds(t, func(i int) string { return string(rune('z' - i)) })
	kinds(t, func(i int) pair { return pair{strconv.Itoa(i), [2]int{i, -i}, i%2 == 0, -float64(i)} })
	kinds(t, func(i int) *int { return nil })
	kinds(t, func(i int) any { return []any{i, "text", nil, pair{}}[i%4] })
	kinds(t, func(int) struct{} { return struct{}{} })
}

// TestNotCompared (P9.1, P9.2): values are of any kind, such that can't be held against one another too.
func TestNotCompared(t *testing.T) {
	funcs := New[func() int]()
	if !funcs.Add(at(1, 2), func() int { return 2 }) || !funcs.Add(at(1, 1), func() int { return 1 }) || funcs.Add(at(1, 1), nil) || !funcs.Add(at(1, 3), nil) {
		t.Fatal("Add")
	}
	one, _ := funcs.Read(vec.Vec{1})
	two, _ := funcs.Read(vec.Vec{2})
	last, ok := funcs.Last()
	if one.Value() != 1 || two.Value() != 2 || last.Value != nil || !ok {
		t.Fatal("Read")
	}
	if funcs.Prune(vec.Vec{2}) != 1 || funcs.Len() != 2 {
		t.Fatal("Prune")
	}
	anything := New[any]()
	if !anything.Add(at(1, 1), []int{1}) || anything.Add(at(1, 1), []int{1}) || !anything.Add(at(1, 2), map[int]int{}) || !anything.Add(at(1, 3), []int{1}) || anything.Prune(vec.Vec{3}) != 2 {
		t.Fatal("any")
	}
	floats := New[float64]()
	if !floats.Add(at(1, 1), math.NaN()) || floats.Add(at(1, 1), math.NaN()) || !floats.Add(at(1, 2), math.NaN()) || floats.Prune(beyondAll()) != 1 || floats.Len() != 1 {
		t.Fatal("NaN")
	}
}

// TestValue (P3): what is handed on by value in a chain is the value: a pointer is told as that pointer.
func TestValue(t *testing.T) {
	n := 1
	c := New[*int]()
	c.Add(at(1, 1), &n)
	n = 2
	v, _ := c.Read(vec.Vec{1})
	last, _ := c.Last()
	if v.Value != &n || last.Value != &n || c.All()[0].Value != &n || n != 2 {
		t.Fatal(v)
	}
}

// TestAddAgain (P9.1): a version of a Stamp that is there already is refused, whatever its value; the one that is there stays.
func TestAddAgain(t *testing.T) {
	c := of(t, rising())
	for round := range 2 {
		for _, s := range rising() {
			for _, value := range []string{"another", "", stamp.Text(s)} {
				if c.Add(s, value) {
					t.Fatal(round, s, value)
				}
			}
			if v, ok := c.Read(s.Vec); !ok || v.Value != stamp.Text(v.Stamp) {
				t.Fatal(round, s, v, ok)
			}
		}
		if c.Len() != len(rising()) || !slices.Equal(c.All(), of(t, rising()).All()) {
			t.Fatal(round, c.All())
		}
	}
}

// TestAddWrong (P9.1, P2): a stamp that is not right is refused, among none and among others, and changes nothing.
func TestAddWrong(t *testing.T) {
	for _, stamps := range [][]stamp.Stamp{nil, {at(1, 1)}, {at(1, 1, 1, 1, 1)}, rising()} {
		c := of(t, stamps)
		before, last := c.All(), Version[string]{}
		if len(before) > 0 {
			last = before[len(before)-1]
		}
		for _, s := range wrongStamps() {
			if c.Add(s, "wrong") {
				t.Fatal("Add", s)
			}
			v, ok := c.Read(s.Vec)
			if ok && v.Value == "wrong" {
				t.Fatal("Read", s, v)
			}
			if v, ok := c.Last(); c.Len() != len(before) || !slices.Equal(c.All(), before) || ok != (len(before) > 0) || v != last {
				t.Fatal("changed by", s, c.All())
			}
		}
	}
}

// TestTwoDatacenters (P9.1, P9.2): two stamps of one vector and two datacenters are two versions, and that of the greater datacenter is over.
func TestTwoDatacenters(t *testing.T) {
	v := vec.Vec{1, 1, 1, 1}
	for a := 1; a <= api.MaxDCs; a++ {
		for b := 1; b <= api.MaxDCs; b++ {
			if a == b {
				continue
			}
			c := of(t, []stamp.Stamp{{Vec: v, DC: a}, {Vec: v, DC: b}})
			high, low := stamp.Stamp{Vec: v, DC: max(a, b)}, stamp.Stamp{Vec: v, DC: min(a, b)}
			if l := c.All(); c.Len() != 2 || len(l) != 2 || l[0].Stamp != low || l[1].Stamp != high {
				t.Fatal(a, b, l)
			}
			read, ok := c.Read(v)
			if last, any := c.Last(); !ok || !any || read.Stamp != high || last != read || read.Value != stamp.Text(high) {
				t.Fatal(a, b, read, last)
			}
			if c.Prune(v) != 1 || c.Len() != 1 || c.All()[0].Stamp != high {
				t.Fatal(a, b, c.All())
			}
		}
	}
}

// TestAllRises (P9.1): All is by the order of stamps, written down by hand, in whatever order they were added; Last is its end.
func TestAllRises(t *testing.T) {
	want := of(t, rising()).All()
	for i, v := range want {
		if v != (Version[string]{rising()[i], stamp.Text(rising()[i])}) {
			t.Fatal(i, v)
		}
	}
	for _, order := range orders(rising(), 50) {
		c := of(t, order)
		if got := c.All(); !slices.Equal(got, want) {
			t.Fatal(order, got)
		}
		if v, ok := c.Last(); !ok || v != want[len(want)-1] {
			t.Fatal(order, v)
		}
	}
}

// orders: those stamps rising, turned round, from the middle on, and in many others.
func orders(l []stamp.Stamp, many int) [][]stamp.Stamp {
	turned := slices.Clone(l)
	slices.Reverse(turned)
	half := len(l) / 2
	out := [][]stamp.Stamp{l, turned, slices.Concat(l[half:], l[:half]), slices.Concat(turned[half:], turned[:half])}
	chance := rand.New(rand.NewSource(9))
	for range many {
		other := slices.Clone(l)
		chance.Shuffle(len(other), func(i, j int) { other[i], other[j] = other[j], other[i] })
		out = append(out, other)
	}
	return out
}

// TestRead (P9.2): a snapshot that has seen none, some, all; of those that it has seen the one over all others, though others are over that one.
func TestRead(t *testing.T) {
	c := of(t, []stamp.Stamp{at(1, 2), at(1, 1), at(2, 1, 1), at(2, 0, 1), at(1, 3, 2), at(3, 0, 0, 9)})
	for _, x := range []struct {
		by   vec.Vec
		want string
	}{
		{vec.Vec{}, ""},
		{vec.Vec{0, 0, 8, 9}, ""},
		{vec.Vec{0, 0, 0, math.MaxUint64}, ""},
		{vec.Vec{1}, "1@1,0,0,0"},
		{vec.Vec{0, 1}, "2@0,1,0,0"},
		{vec.Vec{0, math.MaxUint64}, "2@0,1,0,0"},
		{vec.Vec{2}, "1@2,0,0,0"},
		{vec.Vec{1, 1}, "2@1,1,0,0"},
		{vec.Vec{2, 1}, "2@1,1,0,0"},
		{vec.Vec{9, 1}, "2@1,1,0,0"},
		{vec.Vec{3, 2}, "1@3,2,0,0"},
		{vec.Vec{math.MaxUint64, math.MaxUint64, 8}, "1@3,2,0,0"},
		{vec.Vec{0, 0, 9}, "3@0,0,9,0"},
		{beyondAll(), "3@0,0,9,0"},
	} {
		v, ok := c.Read(x.by)
		if ok != (x.want != "") || v.Value != x.want || ok && stamp.Text(v.Stamp) != x.want || !ok && v != (Version[string]{}) {
			t.Error(x.by, v, ok)
		}
	}
	if c.Len() != 6 {
		t.Error("Read changed it")
	}
}

// TestReadAlike (P9.3): added in whatever order, versions are read alike, at whatever snapshot, and pruned alike.
func TestReadAlike(t *testing.T) {
	for _, stamps := range [][]stamp.Stamp{rising(), grid(1, 1, 2, 3, 4), grid(2, 3)} {
		m := &model[string]{}
		for _, s := range stamps {
			m.add(s, stamp.Text(s))
		}
		by := append(snapshots(2), farSnapshots()...)
		for _, order := range orders(stamps, 8) {
			holds(t, of(t, order), m, by)
		}
		for _, horizon := range []vec.Vec{{}, {1}, {1, 1}, {0, 1, 0, 1}, {2, 2, 2, 1}, beyondAll()} {
			left := &model[string]{m.versions}
			want := left.prune(horizon)
			for _, order := range orders(stamps, 2) {
				c := of(t, order)
				if got := c.Prune(horizon); got != want {
					t.Fatal(horizon, got, want)
				}
				holds(t, c, left, by)
			}
		}
	}
}

// TestPrune (P9.2): a horizon that has seen none, one, some, all; what stays is told by hand, and pruning twice lets nothing go.
func TestPrune(t *testing.T) {
	stamps := []stamp.Stamp{at(1, 1), at(2, 0, 1), at(1, 2), at(2, 1, 1), at(1, 3, 2)}
	for _, x := range []struct {
		horizon vec.Vec
		gone    int
		rest    []string
	}{
		{vec.Vec{}, 0, []string{"1@1,0,0,0", "2@0,1,0,0", "1@2,0,0,0", "2@1,1,0,0", "1@3,2,0,0"}},
		{vec.Vec{0, 0, math.MaxUint64, 9}, 0, []string{"1@1,0,0,0", "2@0,1,0,0", "1@2,0,0,0", "2@1,1,0,0", "1@3,2,0,0"}},
		{vec.Vec{1}, 0, []string{"1@1,0,0,0", "2@0,1,0,0", "1@2,0,0,0", "2@1,1,0,0", "1@3,2,0,0"}},
		{vec.Vec{0, 7}, 0, []string{"1@1,0,0,0", "2@0,1,0,0", "1@2,0,0,0", "2@1,1,0,0", "1@3,2,0,0"}},
		{vec.Vec{2}, 1, []string{"2@0,1,0,0", "1@2,0,0,0", "2@1,1,0,0", "1@3,2,0,0"}},
		{vec.Vec{1, 1}, 2, []string{"1@2,0,0,0", "2@1,1,0,0", "1@3,2,0,0"}},
		{vec.Vec{2, 1}, 3, []string{"2@1,1,0,0", "1@3,2,0,0"}},
		{vec.Vec{2, math.MaxUint64}, 3, []string{"2@1,1,0,0", "1@3,2,0,0"}},
		{vec.Vec{3, 2}, 4, []string{"1@3,2,0,0"}},
		{beyondAll(), 4, []string{"1@3,2,0,0"}},
	} {
		c := of(t, stamps)
		if n := c.Prune(x.horizon); n != x.gone {
			t.Error(x.horizon, n)
		}
		for range 2 {
			if got := texts(c.All()); !slices.Equal(got, x.rest) || c.Len() != len(x.rest) {
				t.Error(x.horizon, got)
			}
			if n := c.Prune(x.horizon); n != 0 {
				t.Error("twice", x.horizon, n)
			}
		}
		if v, ok := c.Last(); !ok || v.Value != "1@3,2,0,0" {
			t.Error(x.horizon, v)
		}
	}
}

// TestPruneAt (P9.2): what stays of the seen is the one over the others, though it stands neither first nor last of all.
func TestPruneAt(t *testing.T) {
	c := of(t, []stamp.Stamp{at(3, 0, 0, 1), at(1, 1), at(3, 0, 0, 2), at(1, 2), at(3, 0, 0, 3), at(1, 3), at(3, 0, 0, 4)})
	if n := c.Prune(vec.Vec{2, 9, 0, 9}); n != 1 {
		t.Error(n)
	}
	want := []string{"3@0,0,1,0", "1@2,0,0,0", "3@0,0,2,0", "1@3,0,0,0", "3@0,0,3,0", "3@0,0,4,0"}
	if got := texts(c.All()); !slices.Equal(got, want) {
		t.Error(got)
	}
}

// TestPrunedReads (P9.3): pruned, whatever is read at the horizon, or beyond it, is as it was; a read that is not may tell something else.
func TestPrunedReads(t *testing.T) {
	beyond, other := 0, 0
	by := append(snapshots(2), farSnapshots()...)
	for _, stamps := range [][]stamp.Stamp{rising(), grid(1, 1, 2, 3, 4), grid(2, 2)[:40]} {
		for _, horizon := range append(snapshots(1), farSnapshots()...) {
			was, c := of(t, stamps), of(t, stamps)
			lastWas, _ := was.Last()
			c.Prune(horizon)
			for _, snapshot := range append(by, horizon) {
				want, any := was.Read(snapshot)
				got, ok := c.Read(snapshot)
				if !vec.Leq(horizon, snapshot) {
					if got != want || ok != any {
						other++
					}
					continue
				}
				beyond++
				if got != want || ok != any {
					t.Fatal(horizon, snapshot, got, want)
				}
			}
			if last, ok := c.Last(); !ok || last != lastWas {
				t.Fatal("Last", horizon, last, lastWas)
			}
		}
	}
	if beyond < 1000 || other < 1000 {
		t.Fatal("too few were tried", beyond, other)
	}
}

// TestPrunedBack (P9.1): what went is there no more: a version of its stamp is added anew, with whatever value.
func TestPrunedBack(t *testing.T) {
	c := of(t, []stamp.Stamp{at(1, 1), at(1, 2), at(1, 3)})
	if c.Prune(vec.Vec{2}) != 1 {
		t.Fatal("Prune")
	}
	if c.Add(at(1, 2), "stayed") || !c.Add(at(1, 1), "back") {
		t.Fatal("Add")
	}
	if got := texts(c.All()); !slices.Equal(got, []string{"back", "1@2,0,0,0", "1@3,0,0,0"}) {
		t.Fatal(got)
	}
	if v, ok := c.Read(vec.Vec{1}); !ok || v.Value != "back" {
		t.Fatal(v, ok)
	}
}

// TestAllMemory (P3): an answer of All shares no memory with the chain, nor with another answer; its spare room neither.
func TestAllMemory(t *testing.T) {
	c := of(t, rising())
	want, other := c.All(), c.All()
	spoilt := c.All()
	for i := range spoilt[:cap(spoilt)] {
		spoilt[:cap(spoilt)][i] = Version[string]{at(1, 1), "spoilt"}
	}
	if !slices.Equal(c.All(), want) || !slices.Equal(other, want) {
		t.Fatal("spoilt", c.All())
	}
	if v, _ := c.Last(); v != want[len(want)-1] {
		t.Fatal("Last", v)
	}
	kept := append([]Version[string](nil), want...)
	c.Prune(vec.Vec{1, 1, 1, 1})
	c.Add(at(1, 5), "new")
	c.Add(at(1, 1), "new")
	c.Prune(beyondAll())
	if c.Len() != 1 || !slices.Equal(want, kept) {
		t.Fatal("an answer has changed", want)
	}
}

// TestAllMemoryGrowing (P3): so at each length, with whatever spare room a chain has then.
func TestAllMemoryGrowing(t *testing.T) {
	c := New[int]()
	for i := range 40 {
		if !c.Add(at(1, uint64(i+1)), i) {
			t.Fatal(i)
		}
		_ = append(c.All(), Version[int]{at(2, 0, 1), -1})
		clear(c.All())
		if !c.Add(at(1, uint64(i+1), 1), i) || c.Prune(vec.Vec{uint64(i + 1)}) != min(i, 1) {
			t.Fatal("Prune", i)
		}
		for j, v := range c.All() {
			if v.Value < 0 || v.Stamp.DC != 1 || j > 0 && stamp.Order(c.All()[j-1].Stamp, v.Stamp) >= 0 {
				t.Fatal(i, c.All())
			}
		}
	}
}

// TestScripts (P9.1, P9.2, P9.3): long scripts of all calls, right stamps and wrong ones among them, answer by answer as the chapter's words do.
func TestScripts(t *testing.T) {
	chance := rand.New(rand.NewSource(99))
	number := func() uint64 {
		return []uint64{0, 0, 1, 1, 2, 2, 3, 3, 4, 5, vec.Most - 1, vec.Most, vec.Most + 1, math.MaxUint64}[chance.Intn(10+chance.Intn(5))]
	}
	anyVec := func() vec.Vec {
		return vec.Vec{number(), number(), number(), number()}
	}
	added, refused, pruned := 0, 0, 0
	for range 200 {
		c, m := New[int](), &model[int]{}
		for step := range 60 {
			if chance.Intn(10) == 0 {
				horizon := anyVec()
				got, want := c.Prune(horizon), m.prune(horizon)
				if got != want {
					t.Fatal("Prune", horizon, got, want)
				}
				pruned += got
			}
			s := stamp.Stamp{Vec: anyVec(), DC: chance.Intn(api.MaxDCs+2) - chance.Intn(2)}
			got, want := c.Add(s, step), m.add(s, step)
			if got != want {
				t.Fatal("Add", s, got, want)
			}
			if got {
				added++
			} else {
				refused++
			}
			holds(t, c, m, []vec.Vec{{}, anyVec(), anyVec(), anyVec(), s.Vec})
		}
	}
	if added < 1000 || refused < 1000 || pruned < 100 {
		t.Fatal("too few were tried", added, refused, pruned)
	}
}
