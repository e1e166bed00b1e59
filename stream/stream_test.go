package stream

import (
	"encoding/binary"
	"encoding/hex"
	"hash/crc32"
	"math"
	"math/rand"
	"runtime"
	"slices"
	"strconv"
	"strings"
	"testing"
	"time"
	"unsafe"
	"weak"

	"tenement/api"
	"tenement/item"
	"tenement/stamp"
	"tenement/vec"
)

// top is the greatest number that is right.
const top = 1 << 60

// longestPut is how many bytes the longest message has: kind and From, an N of 9, a text of 582 behind its length, a sum.
const longestPut = 2 + 9 + 2 + 582 + 4

// pushed is one that has those, of which nothing is acked.
func pushed[T any](t *testing.T, l ...T) *Out[T] {
	t.Helper()
	o := New[T]()
	for i, x := range l {
		if n := o.Push(x); n != uint64(i+1) {
			t.Fatalf("Push tells %d, want %d", n, i+1)
		}
	}
	return o
}

// wantOut asks all that o tells: up to where it is acked, and what is not.
func wantOut[T comparable](t *testing.T, what string, o *Out[T], acked uint64, rest ...T) {
	t.Helper()
	if o.Acked() != acked || o.Last() != acked+uint64(len(rest)) {
		t.Fatalf("%s: Acked %d, Last %d; want %d, %d", what, o.Acked(), o.Last(), acked, acked+uint64(len(rest)))
	}
	for _, most := range []int{0, 1, 2, 4, len(rest) - 1, len(rest), len(rest) + 1, math.MaxInt} {
		want := rest[:min(max(most, 0), len(rest))]
		if got := o.Rest(most); !slices.Equal(got, want) {
			t.Fatalf("%s: Rest(%d) = %v, want %v", what, most, got, want)
		}
	}
}

// wantNoAck: n acks nothing, and turns nothing.
func wantNoAck[T comparable](t *testing.T, o *Out[T], n uint64) {
	t.Helper()
	acked, rest := o.Acked(), o.Rest(math.MaxInt)
	if o.Ack(n) {
		t.Fatalf("Ack(%d) of %d to %d tells true", n, acked, o.Last())
	}
	wantOut(t, "behind Ack of "+strconv.FormatUint(n, 10), o, acked, rest...)
}

// wantAck: n acks all up to it.
func wantAck[T comparable](t *testing.T, o *Out[T], n uint64, rest ...T) {
	t.Helper()
	if !o.Ack(n) {
		t.Fatalf("Ack(%d) tells false", n)
	}
	wantOut(t, "behind Ack of "+strconv.FormatUint(n, 10), o, n, rest...)
}

// farNumbers: at the ends of 64 bits, and such as come to a small number in 8, 16 or 32 bits, or with their sign turned.
func farNumbers() []uint64 {
	return []uint64{
		1<<8 + 1, 1<<8 + 2, 1<<16 + 1, 1<<31 + 1, 1 << 32, 1<<32 + 1, 1<<32 + 2, 1<<60 + 1, 1<<63 - 1, 1 << 63, 1<<63 + 1, 1<<63 + 2,
		math.MaxUint64 - 2, math.MaxUint64 - 1, math.MaxUint64,
	}
}

// stampOf is a stamp of dc that has seen those numbers.
func stampOf(dc int, v ...uint64) stamp.Stamp {
	s := stamp.Stamp{DC: dc}
	copy(s.Vec[:], v)
	return s
}

// wrongStamps: no datacenter, no number there, or a number that is too great.
func wrongStamps() []stamp.Stamp {
	return []stamp.Stamp{
		{},
		stampOf(1),
		stampOf(0, 1, 1, 1, 1),
		stampOf(-1, 1, 1, 1, 1),
		stampOf(5, 1, 1, 1, 1),
		stampOf(257, 1, 1, 1, 1),
		stampOf(math.MinInt, 1, 1, 1, 1),
		stampOf(math.MaxInt, 1, 1, 1, 1),
		stampOf(1, 0, 1, 1, 1),
		stampOf(4, 1, 1, 1, 0),
		stampOf(1, 1, 0, 0, top+1),
		stampOf(1, top+1, 0, 0, 0),
		stampOf(2, math.MaxUint64, 1, 0, 0),
		stampOf(3, math.MaxUint64, math.MaxUint64, math.MaxUint64, math.MaxUint64),
	}
}

// write is one of a key that has that number.
func write(i int) item.Write {
	w := item.Write{Bucket: "b" + strconv.Itoa(i%3), Key: "k" + strconv.Itoa(i), Value: strings.Repeat("v", i%5)}
	if i%4 == 3 {
		w.Value, w.Gone = "", true
	}
	return w
}

// txn is one of s with many writes.
func txn(s stamp.Stamp, many int) item.Txn {
	x := item.Txn{Stamp: s}
	for i := range many {
		x.Writes = append(x.Writes, write(i))
	}
	return x
}

// longest is the transaction with the most bytes that may be.
func longest() item.Txn {
	x := item.Txn{Stamp: stampOf(4, top, top, top, top)}
	for i := range 8 {
		x.Writes = append(x.Writes, item.Write{Bucket: strings.Repeat("b", 16), Key: strings.Repeat("k", 15) + strconv.Itoa(i), Value: strings.Repeat("v", 32)})
	}
	return x
}

// send is the message of x.
func send(from int, x item.Txn) Msg {
	return Msg{Kind: 1, From: from, N: x.Stamp.N(), Txn: x}
}

// ack is one up to n.
func ack(from int, n uint64) Msg {
	return Msg{Kind: 2, From: from, N: n}
}

// rights: Sends and Acks, ordinary and at the edges.
func rights() []Msg {
	var l []Msg
	for from := 1; from <= 4; from++ {
		for _, n := range []uint64{0, 1, 2, 127, 128, 200, 300, 1<<14 - 1, 1 << 14, 1 << 32, top - 1, top} {
			l = append(l, ack(from, n))
		}
		for many := 1; many <= 8; many++ {
			l = append(l, send(from, txn(stampOf(from, 1, 2, 3, 4), many)))
		}
		// Whether From is its datacenter the chapter does not ask.
		l = append(l, send(from, txn(stampOf(2, 0, 200, 0, 0), 1)), send(from, txn(stampOf(1, top, 0, 0, 7), 2)), send(from, txn(stampOf(3, 5, 5, 1, 5), 3)), send(from, longest()))
	}
	return l
}

// wrongs: each not right by one thing, but for some of the first ones.
func wrongs() []Msg {
	x := txn(stampOf(2, 9, 200, 8, 7), 2)
	l := []Msg{{}, {Kind: 1}, {Kind: 2}, {Kind: 1, From: 1}, {Kind: 1, From: 1, N: 1}, {From: 1}, {From: 1, N: 200, Txn: x}}
	for _, kind := range []int{-1, 0, 3, 4, 255, 256, 257, 258, 1<<32 + 1, 1<<32 + 2, -255, -254, math.MinInt, math.MinInt + 1, math.MaxInt} {
		l = append(l, Msg{Kind: kind, From: 1, N: 200, Txn: x}, Msg{Kind: kind, From: 1, N: 200}, Msg{Kind: kind, From: 4})
	}
	for _, from := range []int{0, -1, -2, -4, 5, 6, 8, 255, 256, 257, 260, -255, 1<<32 + 1, math.MinInt, math.MinInt + 1, math.MaxInt} {
		l = append(l, send(from, x), ack(from, 200), ack(from, 0))
	}
	for _, n := range append(farNumbers(), 0, 1, 2, 7, 8, 9, 199, 201, 200+1<<8, 200+1<<32, 224) {
		l = append(l, Msg{Kind: 1, From: 2, N: n, Txn: x})
	}
	for _, n := range []uint64{top + 1, top + 2, 2 * top, 1<<63 - 1, 1 << 63, math.MaxUint64 - 1, math.MaxUint64} {
		l = append(l, ack(1, n), ack(4, n))
	}
	return append(l, wrongTxns()...)
}

// wrongTxns: Sends whose transaction is not whole, and Acks that have something of one.
func wrongTxns() []Msg {
	s := stampOf(2, 9, 200, 8, 7)
	twice, wrong := txn(s, 3), txn(s, 3)
	twice.Writes[2] = twice.Writes[0]
	wrong.Writes[1].Value = strings.Repeat("v", 33)
	gone := txn(s, 4)
	gone.Writes[3].Value = "v"
	l := []Msg{
		send(2, item.Txn{Stamp: s}), send(2, item.Txn{Stamp: s, Writes: []item.Write{}}), send(2, txn(s, 9)), send(2, txn(s, 257)), send(2, txn(s, 3000)),
		send(2, twice), send(2, wrong), send(2, gone), send(2, item.Txn{Writes: txn(s, 1).Writes}),
		{Kind: 2, From: 1, N: 200, Txn: txn(s, 1)}, {Kind: 2, From: 1, N: 200, Txn: item.Txn{Stamp: s}}, {Kind: 2, From: 1, Txn: item.Txn{Writes: make([]item.Write, 1)}},
		{Kind: 2, From: 1, Txn: item.Txn{Stamp: stamp.Stamp{DC: 1}}}, {Kind: 2, From: 1, Txn: item.Txn{Stamp: stampOf(0, 0, 0, 0, 1)}}, {Kind: 2, From: 1, Txn: item.Txn{Stamp: stamp.Stamp{DC: -1}}},
		{Kind: 2, From: 1, N: 200, Txn: item.Txn{Writes: txn(s, 2).Writes}},
	}
	for _, s := range wrongStamps() {
		l = append(l, send(1, txn(s, 1)), send(1, txn(s, 8)), Msg{Kind: 1, From: 1, N: 1, Txn: txn(s, 2)})
	}
	return l
}

// fit is body with four bytes of its sum behind it, by the library's means.
func fit(body string) string {
	return string(binary.BigEndian.AppendUint32([]byte(body), crc32.ChecksumIEEE([]byte(body))))
}

// vary is n's Vary, by the library's means.
func vary(n uint64) string {
	return string(binary.AppendUvarint(nil, n))
}

// text is s behind its length, by the library's means.
func text(s string) string {
	return vary(uint64(len(s))) + s
}

// txnBytes is P8.3's word by the library's means, of whatever can be spelt so, whole or not.
func txnBytes(x item.Txn) string {
	out := string([]byte{byte(x.Stamp.DC)})
	for _, n := range x.Stamp.Vec {
		out += vary(n)
	}
	out += string([]byte{byte(len(x.Writes))})
	for _, w := range x.Writes {
		out += text(w.Bucket) + text(w.Key)
		if w.Gone {
			out += "\x01"
		} else {
			out += "\x00" + text(w.Value)
		}
	}
	return out
}

// spelt is P15.3's word by the library's means, of whatever can be spelt so, right or not.
func spelt(m Msg) string {
	body := string([]byte{byte(m.Kind), byte(m.From)}) + vary(m.N)
	if m.Kind == 1 {
		body += text(txnBytes(m.Txn))
	}
	return fit(body)
}

// same tells if a and b are the same message; a list of nothing is nothing.
func same(a, b Msg) bool {
	return a.Kind == b.Kind && a.From == b.From && a.N == b.N && a.Txn.Stamp == b.Txn.Stamp && slices.Equal(a.Txn.Writes, b.Txn.Writes)
}

// wantNone: s is the Put of no message, and nothing is told of it.
func wantNone(t *testing.T, what, s string) {
	t.Helper()
	if m, e := Get(s); e != api.ErrForm || !same(m, Msg{}) {
		t.Fatalf("%s: Get(%.80x, of %d) = %+v, %d; want ErrForm", what, s, len(s), m, e)
	}
}

// wantGot: s is the Put of m.
func wantGot(t *testing.T, what, s string, m Msg) {
	t.Helper()
	if got, e := Get(s); e != api.OK || !same(got, m) {
		t.Fatalf("%s: Get(%.80x, of %d) = %+v, %d; want %+v", what, s, len(s), got, e, m)
	}
}

// bytesOf is the bytes of hexadecimal digits, with blanks between as one likes.
func bytesOf(t *testing.T, digits string) string {
	t.Helper()
	b, err := hex.DecodeString(strings.ReplaceAll(digits, " ", ""))
	if err != nil {
		t.Fatal(err)
	}
	return string(b)
}

// TestNew (P15.1): nothing was pushed: nothing can be acked, and nothing is left; the first that is pushed is 1.
func TestNew(t *testing.T) {
	o := New[string]()
	wantOut(t, "a new one", o, 0)
	for _, n := range append(farNumbers(), 0, 1, 2, 255) {
		wantNoAck(t, o, n)
	}
	if n := o.Push("a"); n != 1 {
		t.Errorf("Push of a new one tells %d", n)
	}
	wantOut(t, "with one", o, 0, "a")
	wantOut(t, "another one", New[string](), 0)
}

// TestPush (P15.1): the numbers rise by one, whatever is pushed and whatever is acked between.
func TestPush(t *testing.T) {
	o := pushed(t, "a", "a", "", "b")
	wantOut(t, "four", o, 0, "a", "a", "", "b")
	wantAck(t, o, 3, "b")
	if n := o.Push("c"); n != 5 {
		t.Errorf("Push tells %d, want 5", n)
	}
	wantAck(t, o, 5)
	if n := o.Push("d"); n != 6 {
		t.Errorf("behind an Ack of all Push tells %d, want 6", n)
	}
	wantOut(t, "one behind all", o, 5, "d")
}

// TestAck (P15.1): nothing at or below what is acked, nothing above the last number; else all up to it.
func TestAck(t *testing.T) {
	o := pushed(t, 10, 20, 30, 40, 50)
	for _, n := range append(farNumbers(), 0, 6, 7) {
		wantNoAck(t, o, n)
	}
	wantAck(t, o, 1, 20, 30, 40, 50)
	for _, n := range append(farNumbers(), 0, 1, 6, 7) {
		wantNoAck(t, o, n)
	}
	wantAck(t, o, 3, 40, 50)
	for _, n := range append(farNumbers(), 0, 1, 2, 3, 6, 7, 8) {
		wantNoAck(t, o, n)
	}
	wantAck(t, o, 5)
	for _, n := range append(farNumbers(), 0, 1, 2, 3, 4, 5, 6, 7, 10) {
		wantNoAck(t, o, n)
	}
}

// TestAckEach (P15.1): of so many pushed and so many acked by then, each number.
func TestAckEach(t *testing.T) {
	for many := range 12 {
		for acked := range many + 1 {
			for n := range many + 3 {
				o := New[int]()
				for i := range many {
					o.Push(i)
				}
				if acked > 0 && !o.Ack(uint64(acked)) {
					t.Fatalf("Ack(%d) of %d", acked, many)
				}
				var all []int
				for i := range many {
					all = append(all, i)
				}
				if n > acked && n <= many {
					wantAck(t, o, uint64(n), all[n:]...)
				} else {
					wantNoAck(t, o, uint64(n))
				}
			}
		}
	}
}

// TestRest (P15.1): none, one, as many as are left, one more, and at the ends of its type; none behind an Ack of all.
func TestRest(t *testing.T) {
	o := pushed(t, "a", "b", "c")
	for range 2 {
		for _, k := range []struct {
			most int
			want string
		}{{math.MinInt, ""}, {math.MinInt + 1, ""}, {-1 << 32, ""}, {-3, ""}, {-1, ""}, {0, ""}, {1, "a"}, {2, "ab"}, {3, "abc"}, {4, "abc"}, {1 << 32, "abc"}, {math.MaxInt - 1, "abc"}, {math.MaxInt, "abc"}} {
			if got := strings.Join(o.Rest(k.most), ""); got != k.want {
				t.Errorf("Rest(%d) = %q, want %q", k.most, got, k.want)
			}
		}
	}
	for acked, want := range []string{"bc", "c", ""} {
		o.Ack(uint64(acked + 1))
		for most := -3; most <= 4; most++ {
			if got := strings.Join(o.Rest(most), ""); got != want[:min(max(most, 0), len(want))] {
				t.Errorf("behind Ack of %d Rest(%d) = %q", acked+1, most, got)
			}
		}
	}
}

// TestOutTypes (P15.1, P3): of more than one type; what is handed on is the value, and nothing is told for a nothing.
func TestOutTypes(t *testing.T) {
	wantAck(t, pushed(t, struct{}{}, struct{}{}, struct{}{}), 2, struct{}{})
	wantAck(t, pushed(t, [2]uint64{1, 2}, [2]uint64{}), 1, [2]uint64{})
	wantAck(t, pushed[any](t, nil, 1, "x"), 1, any(1), any("x"))
	x, y := 1, 1
	wantAck(t, pushed(t, &x, &y, nil), 1, &y, nil)
	wantOut(t, "stamps", pushed(t, stampOf(1, 1), stampOf(2, 1, 1)), 0, stampOf(1, 1), stampOf(2, 1, 1))
	l := []int{1, 2}
	o := pushed(t, l, nil)
	l[0] = 7
	if got := o.Rest(2); &got[0][0] != &l[0] || got[0][0] != 7 || got[1] != nil {
		t.Errorf("a list is told as %v", got)
	}
	calls := 0
	f := pushed(t, func() { calls++ }).Rest(1)
	f[0]()
	if calls != 1 {
		t.Error("a function is another one")
	}
}

// TestOutApart (P15.1): what is done to one turns nothing of another one.
func TestOutApart(t *testing.T) {
	a, b := pushed(t, "a", "b"), pushed(t, "a", "b")
	wantAck(t, a, 2)
	a.Push("c")
	wantOut(t, "the other one", b, 0, "a", "b")
	wantAck(t, b, 1, "b")
	wantOut(t, "the first one", a, 2, "c")
}

// TestRestOwnMemory (P3): a list that is told, turned or appended to, turns nothing told later; nor does what is done later turn it.
func TestRestOwnMemory(t *testing.T) {
	o := pushed(t, "a", "b", "c", "d")
	for acked := range uint64(4) {
		for most := 1; most <= 5; most++ {
			want := []string{"a", "b", "c", "d"}[acked:]
			l := o.Rest(most)
			all := l[:cap(l)]
			for i := range all {
				all[i] = "x"
			}
			_ = append(l[:0], "y", "y", "y", "y", "y")
			wantOut(t, "turned", o, acked, want...)
		}
		o.Ack(acked + 1)
	}
	for _, s := range []string{"e", "f", "g"} {
		o.Push(s)
	}
	l := o.Rest(2)
	o.Ack(6)
	o.Push("h")
	o.Ack(8)
	o.Push("i")
	if !slices.Equal(l, []string{"e", "f"}) {
		t.Errorf("what was told is %q now", l)
	}
}

// model is P15.1 by its words: all that was ever pushed, and up to where it is acked.
type model struct {
	all   []int
	acked uint64
}

// ack is Ack of the chapter.
func (m *model) ack(n uint64) bool {
	if n > uint64(len(m.all)) || n <= m.acked {
		return false
	}
	m.acked = n
	return true
}

// TestOutScripts (P15.1): pushes, acks and reads of the rest in turn, against the model.
func TestOutScripts(t *testing.T) {
	acks, refused, empty, deep := 0, 0, 0, 0
	for seed := range int64(200) {
		r := rand.New(rand.NewSource(seed))
		o, m := New[int](), &model{}
		for range 300 {
			for range r.Intn(2 + int(seed)%7) {
				x := r.Intn(1000)
				m.all = append(m.all, x)
				if n := o.Push(x); n != uint64(len(m.all)) {
					t.Fatalf("seed %d: Push tells %d", seed, n)
				}
			}
			n := m.acked + uint64(r.Intn(4)) - 1 // with nothing acked it may go round
			if r.Intn(20) == 0 {
				n = uint64(r.Intn(len(m.all) + 3))
			}
			want := m.ack(n)
			if got := o.Ack(n); got != want {
				t.Fatalf("seed %d: Ack(%d) = %v", seed, n, got)
			}
			rest := m.all[m.acked:]
			wantOut(t, "a script", o, m.acked, rest...)
			if want {
				acks++
			} else {
				refused++
			}
			if len(rest) == 0 {
				empty++
			} else if len(rest) > 100 {
				deep++
			}
		}
	}
	if acks < 10000 || refused < 10000 || empty < 1000 || deep < 1000 {
		t.Errorf("the scripts try too little: %d, %d, %d, %d", acks, refused, empty, deep)
	}
}

// TestOutMany (P1, P15.1): many that wait, acked one by one, end soon.
func TestOutMany(t *testing.T) {
	const many = 300000
	start := time.Now()
	o := New[item.Txn]()
	for i := range many {
		if o.Push(item.Txn{Stamp: stampOf(1, uint64(i+1))}) != uint64(i+1) {
			t.Fatal("Push", i)
		}
	}
	for n := uint64(1); n <= many; n++ {
		l := o.Rest(2)
		if l[0].Stamp.N() != n || n < many && (len(l) != 2 || l[1].Stamp.N() != n+1) || !o.Ack(n) {
			t.Fatal("Ack", n, l)
		}
	}
	if len(o.Rest(1)) != 0 || o.Acked() != many || o.Last() != many {
		t.Error("not all is acked")
	}
	if took := time.Since(start); took > 20*time.Second {
		t.Errorf("it took %v", took)
	}
}

// watched pushes many things, and tells which of them are still kept by anybody.
func watched(o *Out[*[64]int], many int) []weak.Pointer[[64]int] {
	var l []weak.Pointer[[64]int]
	for range many {
		x := new([64]int)
		l = append(l, weak.Make(x))
		o.Push(x)
	}
	return l
}

// TestOutLetsGo (P15.1): what is acked is not kept, and what is not acked is.
func TestOutLetsGo(t *testing.T) {
	for _, acked := range []int{1, 10, 30, 50, 51, 99, 100} {
		o := New[*[64]int]()
		l := watched(o, 100)
		o.Ack(uint64(acked))
		runtime.GC()
		for i, p := range l {
			if kept := p.Value() != nil; kept != (i >= acked) {
				t.Errorf("with %d acked, number %d is kept: %v", acked, i+1, kept)
			}
		}
		runtime.KeepAlive(o)
	}
}

// TestOutPlaces (P15.1): nor are the places of what is acked kept, however many were pushed.
func TestOutPlaces(t *testing.T) {
	var before, behind runtime.MemStats
	runtime.GC()
	runtime.ReadMemStats(&before)
	o := pushed(t, [1024]byte{1}, [1024]byte{2})
	for i := range uint64(50000) {
		o.Push([1024]byte{3})
		o.Ack(i + 1)
	}
	runtime.GC()
	runtime.ReadMemStats(&behind)
	if kept := int64(behind.HeapAlloc) - int64(before.HeapAlloc); kept > 10<<20 {
		t.Errorf("%d bytes are kept for two that are not acked", kept)
	}
	wantOut(t, "behind them", o, 50000, [1024]byte{3}, [1024]byte{3})
}

// TestReadyKnown (P15.2): by hand: the number of its datacenter equal, one above, two above; another number equal, one above, below.
func TestReadyKnown(t *testing.T) {
	s := stampOf(2, 2, 3, 0, 1)
	for i, k := range []struct {
		have vec.Vec
		s    stamp.Stamp
		want int
	}{
		{vec.Vec{2, 2, 0, 1}, s, 1},
		{vec.Vec{3, 2, 1, 2}, s, 1},
		{vec.Vec{top, 2, top, top}, s, 1},
		{vec.Vec{1, 2, 0, 1}, s, 0},
		{vec.Vec{2, 2, 0, 0}, s, 0},
		{vec.Vec{2, 1, 0, 1}, s, 0},
		{vec.Vec{2, 0, 0, 1}, s, 0},
		{vec.Vec{9, 1, 9, 9}, s, 0},
		{vec.Vec{2, 3, 0, 1}, s, -1},
		{vec.Vec{2, 4, 0, 1}, s, -1},
		{vec.Vec{0, 3, 0, 0}, s, -1},
		{vec.Vec{0, top, 0, 0}, s, -1},
		{vec.Vec{}, stampOf(1, 1), 1},
		{vec.Vec{}, stampOf(4, 0, 0, 0, 1), 1},
		{vec.Vec{}, stampOf(4, 0, 0, 0, 2), 0},
		{vec.Vec{}, stampOf(4, 0, 0, 1, 1), 0},
		{vec.Vec{0, 0, 0, 1}, stampOf(4, 0, 0, 0, 1), -1},
		{vec.Vec{top, top, top - 1, top}, stampOf(3, top, top, top, top), 1},
		{vec.Vec{top, top, top - 2, top}, stampOf(3, top, top, top, top), 0},
		{vec.Vec{top, top - 1, top - 1, top}, stampOf(3, top, top, top, top), 0},
		{vec.Vec{top, top, top, top}, stampOf(3, top, top, top, top), -1},
		{vec.Vec{}, stampOf(3, 0, 0, top, 0), 0},
	} {
		if got := Ready(k.have, k.s); got != k.want {
			t.Errorf("%d: Ready(%v, %v) = %d, want %d", i, k.have, k.s, got, k.want)
		}
	}
	if Old != -1 || Wait != 0 || Next != 1 {
		t.Error("the constants are others")
	}
}

// TestReadyWrongStamp (P15.2, P6): one that is not right waits, whatever there is.
func TestReadyWrongStamp(t *testing.T) {
	for _, s := range wrongStamps() {
		for _, n := range []uint64{0, 1, 2, 9, top, top + 1, math.MaxUint64 - 1, math.MaxUint64} {
			for _, have := range []vec.Vec{{n, n, n, n}, {n}, {0, n}, {0, 0, n}, {0, 0, 0, n}} {
				if got := Ready(have, s); got != 0 {
					t.Errorf("Ready(%v, %v) = %d", have, s, got)
				}
			}
		}
	}
}

// TestReadyWrongVec (P15.2, P6): a vector that is not right is held against the stamp number by number all the same.
func TestReadyWrongVec(t *testing.T) {
	for _, n := range []uint64{top + 1, 1<<63 - 1, 1 << 63, math.MaxUint64 - 1, math.MaxUint64} {
		for dc := 1; dc <= 4; dc++ {
			s := stamp.Stamp{Vec: vec.Vec{5, 5, 5, 5}, DC: dc}
			for at := 1; at <= 4; at++ {
				for _, k := range []struct{ own, want int }{{3, 0}, {4, 1}, {5, -1}, {6, -1}} {
					have := vec.With(vec.With(vec.Vec{5, 5, 5, 5}, dc, uint64(k.own)), at, n)
					want := k.want
					if at == dc {
						want = -1
					}
					if got := Ready(have, s); got != want {
						t.Errorf("Ready(%v, %v) = %d, want %d", have, s, got, want)
					}
				}
			}
			greatest := stamp.Stamp{Vec: vec.Vec{top, top, top, top}, DC: dc}
			if got := Ready(vec.Vec{n, n, n, n}, greatest); got != -1 {
				t.Errorf("the greatest stamp: %d", got)
			}
			if got := Ready(vec.With(vec.Vec{n, n, n, n}, dc, top-1), greatest); got != 1 {
				t.Errorf("the greatest stamp, one below it: %d", got)
			}
		}
	}
}

// slowReady is P15.2 by its words.
func slowReady(have vec.Vec, s stamp.Stamp) int {
	if !stamp.Right(s) {
		return 0
	}
	own := have[s.DC-1]
	if s.Vec[s.DC-1] <= own {
		return -1
	}
	if s.Vec[s.DC-1] >= own+2 {
		return 0
	}
	for i := range 4 {
		if i != s.DC-1 && s.Vec[i] > have[i] {
			return 0
		}
	}
	return 1
}

// TestReadyEach (P15.2): all small vectors and stamps, and such as are as far apart.
func TestReadyEach(t *testing.T) {
	many := map[int]int{}
	digits := func(i, base int) (v vec.Vec) {
		for place := range v {
			v[place] = uint64(i % base)
			i /= base
		}
		return v
	}
	for h := range 81 {
		for k := range 256 {
			for dc := -1; dc <= 5; dc++ {
				for _, from := range []uint64{0, 126, 1 << 32, top - 3} {
					have, s := digits(h, 3), stamp.Stamp{Vec: digits(k, 4), DC: dc}
					for i := range 4 {
						have[i] += from
						s.Vec[i] += from
					}
					want := slowReady(have, s)
					many[want]++
					if got := Ready(have, s); got != want {
						t.Fatalf("Ready(%v, %v) = %d, want %d", have, s, got, want)
					}
				}
			}
		}
	}
	if many[-1] < 10000 || many[0] < 10000 || many[1] < 10000 {
		t.Errorf("too little is tried: %v", many)
	}
}

// TestPutKnown (P15.3): each byte, worked out by hand.
func TestPutKnown(t *testing.T) {
	x := item.Txn{Stamp: stampOf(2, 0, 200, 0, 0), Writes: []item.Write{{Bucket: "b", Key: "k", Value: "v"}, {Bucket: "c", Key: "l", Gone: true}}}
	for _, k := range []struct {
		m    Msg
		want string
	}{
		// Kind, From, N; 19 bytes of: DC, Vec, two writes; the sum.
		{Msg{Kind: Send, From: 2, N: 200, Txn: x}, "01 02 c801 13 02 00c8010000 02 0162016b000176 0163016c01 eae663d0"},
		{Msg{Kind: Ack, From: 4, N: 300}, "02 04 ac02 60f82d82"},
		{Msg{Kind: Ack, From: 1}, "02 01 00 e5de3c3d"},
		{Msg{Kind: Ack, From: 4, N: vec.Most}, "02 04 808080808080808010 027646ee"},
	} {
		want := bytesOf(t, k.want)
		if s, ok := Put(k.m); s != want || !ok {
			t.Errorf("Put(%+v) = %x, %v; want %x", k.m, s, ok, want)
		}
		wantGot(t, "by hand", want, k.m)
	}
	if Send != 1 || Ack != 2 {
		t.Error("the constants are others")
	}
}

// TestPutRight (P15.3): all right ones are put as the library puts them, and got back; no two have the same bytes.
func TestPutRight(t *testing.T) {
	from := map[string]bool{}
	for _, m := range rights() {
		s, ok := Put(m)
		if !Right(m) || !ok || s != spelt(m) {
			t.Errorf("%+v: right %v; put as %x, %v; want %x", m, Right(m), s, ok, spelt(m))
		}
		wantGot(t, "a right one", s, m)
		if from[s] {
			t.Errorf("%+v has the bytes of another one", m)
		}
		from[s] = true
	}
	if len(from) < 90 {
		t.Errorf("only %d were put", len(from))
	}
}

// TestWrong (P15.3, P2): one that is not right is not put.
func TestWrong(t *testing.T) {
	for _, m := range wrongs() {
		if s, ok := Put(m); Right(m) || ok || s != "" {
			t.Errorf("%+v: right %v; put as %x, %v", m, Right(m), s, ok)
		}
	}
}

// TestEmptyList (P15.3, P5): an Ack's list of no writes is nothing, nil or empty, with spare room or with none.
func TestEmptyList(t *testing.T) {
	want, _ := Put(ack(3, 7))
	for _, l := range [][]item.Write{nil, {}, make([]item.Write, 0, 5), txn(stampOf(1, 1), 3).Writes[:0]} {
		m := Msg{Kind: 2, From: 3, N: 7, Txn: item.Txn{Writes: l}}
		if s, ok := Put(m); !Right(m) || !ok || s != want {
			t.Errorf("right %v; put as %x, %v; want %x", Right(m), s, ok, want)
		}
	}
}

// TestGetWrong (P15.3): what can be spelt of one that is not right is none, with a sum that fits.
func TestGetWrong(t *testing.T) {
	tried := 0
	for _, m := range wrongs() {
		if m.Kind != int(byte(m.Kind)) || m.From != int(byte(m.From)) || m.Kind == 2 && m.N <= top && m.From >= 1 && m.From <= 4 {
			continue // in a byte it is another one; of an Ack the transaction is not spelt
		}
		if m.Txn.Stamp.DC != int(byte(m.Txn.Stamp.DC)) || len(m.Txn.Writes) > 3 && m.Txn.Writes[3].Value != "" {
			continue // so here; of a write that is Gone the value is not spelt
		}
		wantNone(t, "not right", spelt(m))
		tried++
	}
	if tried < 70 {
		t.Errorf("only %d were tried", tried)
	}
	for kind := range 256 {
		for from := range 256 {
			head := string([]byte{byte(kind), byte(from)}) + "\x07"
			if kind == 2 && from >= 1 && from <= 4 {
				wantGot(t, "an Ack", fit(head), ack(from, 7))
			} else {
				wantNone(t, "another kind, or from nobody", fit(head))
			}
			x := txn(stampOf(1, 7), 1)
			if s := fit(head + text(txnBytes(x))); kind == 1 && from >= 1 && from <= 4 {
				wantGot(t, "a Send", s, send(from, x))
			} else {
				wantNone(t, "another kind, or from nobody", s)
			}
		}
	}
}

// TestGetCut (P15.3): the empty string, each cut of a right one, at its end and at its beginning, the first ones with a sum that fits too.
func TestGetCut(t *testing.T) {
	wantNone(t, "the empty string", "")
	wantNone(t, "a sum alone", fit(""))
	for _, m := range rights() {
		s := spelt(m)
		for k := range len(s) {
			wantNone(t, "cut", s[:k])
		}
		for k := 1; k <= len(s); k++ {
			wantNone(t, "without its beginning", s[k:])
		}
		body := s[:len(s)-4]
		for k := range len(body) {
			// A cut of an Ack's N never ends with a byte that ends a Vary.
			wantNone(t, "cut, with a sum", fit(body[:k]))
		}
	}
}

// TestGetBehind (P15.3): something behind, with the sum ahead of it, and with one that fits all of it.
func TestGetBehind(t *testing.T) {
	for _, m := range rights() {
		s := spelt(m)
		for _, behind := range []string{"x", "\x00", "\x01", "\x80", "\xff\xff\xff\xff", s, s[len(s)-4:], strings.Repeat("\x00", 2048)} {
			wantNone(t, "something behind", s+behind)
			wantNone(t, "something behind, with a sum", fit(s+behind))
			wantNone(t, "something behind the body", fit(s[:len(s)-4]+behind))
		}
	}
	x := text(txnBytes(txn(stampOf(1, 7), 1)))
	wantNone(t, "an Ack with a transaction", fit("\x02\x01\x07"+x))
	wantNone(t, "an Ack with an empty text", fit("\x02\x01\x07\x00"))
	wantNone(t, "a Send with an empty text", fit("\x01\x01\x07\x00"))
	wantNone(t, "a Send with no text", fit("\x01\x01\x07"))
	wantNone(t, "a Send with two", fit("\x01\x01\x07"+x+x))
	wantNone(t, "a Send with something in its text", fit("\x01\x01\x07"+text(txnBytes(txn(stampOf(1, 7), 1))+"x")))
	wantGot(t, "a Send", fit("\x01\x01\x07"+x), send(1, txn(stampOf(1, 7), 1)))
}

// TestGetTurned (P15.3): any one byte turned to any other one.
func TestGetTurned(t *testing.T) {
	for _, m := range rights() {
		if m.Kind == 1 && m.From > 1 {
			continue // with another From these are the same bytes
		}
		s := []byte(spelt(m))
		for k := range s {
			was := s[k]
			for turn := 1; turn < 256; turn += 1 + len(s)/8 {
				s[k] = was ^ byte(turn)
				wantNone(t, "turned", string(s))
			}
			s[k] = was
		}
	}
}

// TestGetSum (P15.3): another sum than that of all ahead of it, in this order.
func TestGetSum(t *testing.T) {
	for _, m := range rights() {
		s := spelt(m)
		body := s[:len(s)-4]
		sum := crc32.ChecksumIEEE([]byte(body))
		for _, other := range []uint32{0, math.MaxUint32, ^sum, sum + 1, sum - 1, sum ^ 1<<31, crc32.ChecksumIEEE([]byte(body[1:])), crc32.ChecksumIEEE([]byte(s)), crc32.Checksum([]byte(body), crc32.MakeTable(crc32.Castagnoli))} {
			if other != sum {
				wantNone(t, "another sum", string(binary.BigEndian.AppendUint32([]byte(body), other)))
			}
		}
		if little := string(binary.LittleEndian.AppendUint32([]byte(body), sum)); little != s {
			wantNone(t, "turned round", little)
		}
		wantNone(t, "eight bytes", string(binary.BigEndian.AppendUint64([]byte(body), uint64(sum))))
		wantNone(t, "none", body)
	}
}

// toZero is body with four bytes behind it that make the sum of all 0.
func toZero(body string) string {
	// The state from which four zero bytes come to all ones, bit by bit from there; a byte that is taken in is the same as a state that has it already.
	state := uint32(math.MaxUint32)
	for range 32 {
		if state>>31 == 1 {
			state = (state^crc32.IEEE)<<1 | 1
		} else {
			state <<= 1
		}
	}
	has := ^crc32.ChecksumIEEE([]byte(body))
	return string(binary.LittleEndian.AppendUint32([]byte(body), state^has))
}

// TestGetZeroSum (P15.3): what can't be read to its end is none, though the sum of all that is there is 0, as the one that is missing.
func TestGetZeroSum(t *testing.T) {
	for _, body := range []string{"", "\x02\x01", "\x02\x01\x80\x00", "\x02\x01\xff\xff\xff\xff\xff\xff\xff\xff\xff\x02", "\x02\x01\x07", "\x02\x04" + strings.Repeat("\x80", 20), "\x01\x01\x07\x80\x00", "\x01\x01\x07\xff\x7f"} {
		s := toZero(body)
		if crc32.ChecksumIEEE([]byte(s)) != 0 {
			t.Fatalf("the sum of %x is not 0", s)
		}
		wantNone(t, "of sum 0", s)
		wantNone(t, "of sum 0, with its sum", fit(s))
	}
}

// TestGetNoVary (P15.3): with a sum that fits, a Vary that is longer than it need be, or that no number has, as N and as the text's length.
func TestGetNoVary(t *testing.T) {
	x := txnBytes(txn(stampOf(1, 7), 1))
	wantGot(t, "an Ack", fit("\x02\x01"+"\x07"), ack(1, 7))
	for _, n := range []string{"\x87\x00", "\x87\x80\x00", "\x87\x80\x80\x80\x80\x80\x80\x80\x80\x00", "\x87\x80\x80\x80\x80\x80\x80\x80\x80\x02", "\x87", "\x80\x00", "\x87\x80\x80\x80\x80\x80\x80\x80\x80\x80\x00"} {
		wantNone(t, "N of an Ack", fit("\x02\x01"+n))
		wantNone(t, "N of a Send", fit("\x01\x01"+n+text(x)))
	}
	size := byte(len(x))
	for _, l := range []string{string([]byte{size | 128, 0}), string([]byte{size | 128, 128, 0}), string([]byte{size | 128, 128, 128, 128, 16}), string([]byte{size - 1}), string([]byte{size + 1}), string([]byte{size + 4}), "\x80\x10", "\x81\x10", "\xff\xff\xff\xff\xff\xff\xff\xff\xff\x01", "\xff\xff\xff\xff\xff\xff\xff\xff\x7f"} {
		wantNone(t, "a length", fit("\x01\x01\x07"+l+x))
	}
	wantNone(t, "a Vary in the transaction", fit("\x01\x01\x07"+text("\x01\x87\x00"+x[2:])))
	wantGot(t, "a Send", fit("\x01\x01\x07"+text("\x01\x07"+x[2:])), send(1, txn(stampOf(1, 7), 1)))
}

// TestGetLong (P15.3, Limits, P1): strings longer than Put ever tells, with sums that fit, end soon and are none.
func TestGetLong(t *testing.T) {
	s, ok := Put(send(4, longest()))
	if len(s) != longestPut || !ok {
		t.Errorf("the longest has %d bytes, %v; want %d", len(s), ok, longestPut)
	}
	wantGot(t, "the longest", s, send(4, longest()))
	x := txnBytes(longest())
	for _, many := range []int{583, 600, 2047, 2048, 2049, 2050, 4096, 1 << 16, 1 << 20} {
		padded := x + strings.Repeat("\x00", many-len(x))
		wantNone(t, "a long text", fit("\x01\x04"+vary(top)+text(padded)))
		wantNone(t, "a long end", fit("\x01\x04"+vary(top)+text(x)+padded))
		wantNone(t, "an Ack", fit("\x02\x04"+vary(top)+padded))
		for _, b := range []string{"\x00", "\x01", "\x02", "\x80", "\xff"} {
			wantNone(t, "one byte", fit(strings.Repeat(b, many)))
		}
	}
	for _, b := range []string{"\x00", "\x01", "\x80", "\xff"} {
		wantNone(t, "very long", "\x02\x04"+strings.Repeat(b, 1<<26))
		wantNone(t, "very long", "\x01\x04\x01"+strings.Repeat(b, 1<<26))
	}
}

// slowGet is P15.3's word apart from the program's way: what may be a message is spelt again.
func slowGet(s string) (m Msg, ok bool) {
	if len(s) < 7 {
		return Msg{}, false
	}
	n, size := binary.Uvarint([]byte(s[2:]))
	if size <= 0 {
		return Msg{}, false
	}
	m = Msg{Kind: int(s[0]), From: int(s[1]), N: n}
	if m.Kind == 1 {
		many, head := binary.Uvarint([]byte(s[2+size:]))
		if at := 2 + size + head; head > 0 && many <= uint64(len(s)-at) {
			m.Txn, ok = item.Read(s[at : at+int(many)])
		}
		ok = ok && m.Txn.Stamp.Vec[m.Txn.Stamp.DC-1] == n
	} else {
		ok = m.Kind == 2 && n <= top
	}
	if !ok || m.From < 1 || m.From > 4 || spelt(m) != s {
		return Msg{}, false
	}
	return m, true
}

// TestGetAny (P1, P15.3): right ones with some bytes turned, cut out, or put in, and a sum that mostly fits, are got as slowGet gets them.
func TestGetAny(t *testing.T) {
	r := rand.New(rand.NewSource(15))
	l := rights()
	got, none := 0, 0
	for range 200000 {
		s := spelt(l[r.Intn(len(l))])
		body := []byte(s[:len(s)-4])
		for range r.Intn(4) {
			k := r.Intn(len(body))
			switch r.Intn(6) {
			case 0:
				body = slices.Insert(body, k, byte(r.Intn(256)))
			case 1:
				if len(body) > 1 {
					body = slices.Delete(body, k, k+1)
				}
			case 2:
				body[k] = byte(r.Intn(256))
			default:
				body[r.Intn(min(4, len(body)))] = byte(r.Intn(6))
			}
		}
		s = fit(string(body))
		if r.Intn(10) == 0 {
			s = string(body) + s[len(s)-4:len(s)-1] + "\x00"
		}
		want, ok := slowGet(s)
		if !ok {
			wantNone(t, "any", s)
			none++
			continue
		}
		wantGot(t, "any", s, want)
		if put, _ := Put(want); put != s {
			t.Fatalf("%x is put as %x", s, put)
		}
		got++
	}
	if got < 20000 || none < 20000 {
		t.Errorf("too little is tried: %d, %d", got, none)
	}
}

// TestGetShort (P15.3): each text of some bytes, with a sum that fits, is got as slowGet gets it.
func TestGetShort(t *testing.T) {
	some := []byte{0, 1, 2, 4, 5, 127, 128}
	got := 0
	for size := range 7 {
		many := int(math.Pow(float64(len(some)), float64(size)))
		for i := range many {
			var body []byte
			for k := i; len(body) < size; k /= len(some) {
				body = append(body, some[k%len(some)])
			}
			s := fit(string(body))
			if want, ok := slowGet(s); ok {
				wantGot(t, "short", s, want)
				got++
			} else {
				wantNone(t, "short", s)
			}
		}
	}
	if got < 60 {
		t.Errorf("only %d are right", got)
	}
}

// TestMsgOwnMemory (P3): a transaction that was handed to Put, or told by Get, turned, turns no later answer; nothing that is handed in is written into.
func TestMsgOwnMemory(t *testing.T) {
	m := send(1, txn(stampOf(1, 7), 5))
	m.Txn.Writes = append(make([]item.Write, 0, 16), m.Txn.Writes...)
	room := m.Txn.Writes[:16]
	room[5] = item.Write{Bucket: "behind"}
	s, _ := Put(m)
	kept := strings.Clone(s)
	if !Right(m) || !slices.Equal(m.Txn.Writes, txn(m.Txn.Stamp, 5).Writes) || room[5].Bucket != "behind" || room[6] != (item.Write{}) {
		t.Error("what was handed in is another one now")
	}
	for i := range room {
		room[i] = item.Write{Bucket: "turned"}
	}
	if s != kept {
		t.Error("what was put is another one now")
	}
	want := send(1, txn(stampOf(1, 7), 5))
	got, _ := Get(s)
	all := got.Txn.Writes[:cap(got.Txn.Writes)]
	for i := range all {
		all[i] = item.Write{Bucket: "turned"}
	}
	wantGot(t, "behind an answer that was turned", s, want)
	if again, ok := Put(want); !ok || again != s {
		t.Error("it is put as another one now")
	}
}

// TestGetOwnBytes (P3): what Get tells has bytes of its own: those of s may turn behind it.
func TestGetOwnBytes(t *testing.T) {
	want := send(1, txn(stampOf(1, 7), 8))
	bytes := []byte(spelt(want))
	got, e := Get(unsafe.String(&bytes[0], len(bytes)))
	clear(bytes)
	if e != api.OK || !same(got, want) {
		t.Errorf("behind it is %+v, %d", got, e)
	}
}

// TestPutOwnBytes (P3): what Put tells has bytes of its own: those of the transaction's texts may turn behind it.
func TestPutOwnBytes(t *testing.T) {
	bytes := []byte("bkv")
	one := func(i int) string { return unsafe.String(&bytes[i], 1) }
	s, ok := Put(send(1, item.Txn{Stamp: stampOf(1, 7), Writes: []item.Write{{Bucket: one(0), Key: one(1), Value: one(2)}}}))
	clear(bytes)
	want := spelt(send(1, item.Txn{Stamp: stampOf(1, 7), Writes: []item.Write{{Bucket: "b", Key: "k", Value: "v"}}}))
	if !ok || s != want {
		t.Errorf("behind it is %x, want %x", s, want)
	}
}

// site is a datacenter as far as this layer goes: what it has, and what it sends to the one other.
type site struct {
	dc    int
	have  vec.Vec
	out   *Out[string]
	taken []stamp.Stamp
}

// commit is a transaction of a's own, which has seen all that a has.
func (a *site) commit(t *testing.T) {
	t.Helper()
	n := vec.At(a.have, a.dc) + 1
	a.have = vec.With(a.have, a.dc, n)
	s, ok := Put(send(a.dc, txn(stamp.Stamp{Vec: a.have, DC: a.dc}, 1)))
	if got := a.out.Push(s); !ok || got != n {
		t.Fatalf("commit %d is pushed as %d, %v", n, got, ok)
	}
}

// take is what a does with a message's bytes, and what it answers: an Ack of a Send.
func (a *site) take(t *testing.T, bytes string) (answer string) {
	t.Helper()
	m, e := Get(bytes)
	if e != api.OK {
		t.Fatalf("Get = %d", e)
	}
	if m.Kind == Ack {
		a.out.Ack(m.N)
		return ""
	}
	if Ready(a.have, m.Txn.Stamp) == Next {
		a.have = vec.With(a.have, m.From, m.N)
		a.taken = append(a.taken, m.Txn.Stamp)
		if got := Ready(a.have, m.Txn.Stamp); got != Old {
			t.Fatalf("what was Next is %d behind it", got)
		}
	}
	answer, ok := Put(ack(a.dc, vec.At(a.have, m.From)))
	if !ok {
		t.Fatal("the Ack is not right")
	}
	return answer
}

// TestSentAgain (P15.4): messages are lost, come twice and in another order; what is not acked is sent again, in order, till it is; each is taken once, in order.
func TestSentAgain(t *testing.T) {
	lost, old := 0, 0
	for seed := range int64(100) {
		r := rand.New(rand.NewSource(seed))
		a, b := &site{dc: 1, out: New[string]()}, &site{dc: 2, out: New[string]()}
		var toA, toB []string
		for round := range 400 {
			if round < 200 && r.Intn(3) == 0 {
				a.commit(t)
			}
			if round < 200 && r.Intn(4) == 0 {
				b.commit(t)
			}
			toA, toB = append(toA, b.out.Rest(4)...), append(toB, a.out.Rest(4)...)
			for _, k := range []struct {
				to        *site
				way, back *[]string
			}{{a, &toA, &toB}, {b, &toB, &toA}} {
				for range min(5, len(*k.way)) {
					i := r.Intn(len(*k.way))
					bytes := (*k.way)[i]
					if r.Intn(3) > 0 {
						*k.way = slices.Delete(*k.way, i, i+1)
					}
					if r.Intn(3) == 0 {
						lost++
						continue
					}
					before := len(k.to.taken)
					if answer := k.to.take(t, bytes); answer != "" {
						*k.back = append(*k.back, answer)
						old += 1 - (len(k.to.taken) - before)
					}
				}
				*k.way = (*k.way)[max(0, len(*k.way)-20):]
			}
		}
		wantTogether(t, seed, a, b)
	}
	if lost < 10000 || old < 10000 {
		t.Errorf("the scripts try too little: %d, %d", lost, old)
	}
}

// wantTogether: each has all of the other one, once and in order, and all is acked.
func wantTogether(t *testing.T, seed int64, a, b *site) {
	t.Helper()
	if a.have != b.have || a.have[0] < 20 || a.have[1] < 20 {
		t.Fatalf("seed %d: %v and %v", seed, a.have, b.have)
	}
	for _, k := range []struct{ from, to *site }{{a, b}, {b, a}} {
		many := vec.At(a.have, k.from.dc)
		if k.from.out.Acked() != many || k.from.out.Last() != many || len(k.from.out.Rest(4)) != 0 || uint64(len(k.to.taken)) != many {
			t.Fatalf("seed %d: of %d of %d, %d are acked, %d taken", seed, many, k.from.dc, k.from.out.Acked(), len(k.to.taken))
		}
		for i, s := range k.to.taken {
			if s.DC != k.from.dc || s.N() != uint64(i+1) {
				t.Fatalf("seed %d: %v is taken as number %d", seed, s, i+1)
			}
		}
	}
}

// TestNextIsOldBehind (P15.4): of whatever is Next, behind it that is Old, and what comes behind that one is no longer Wait for it.
func TestNextIsOldBehind(t *testing.T) {
	r := rand.New(rand.NewSource(4))
	nexts := 0
	for range 20000 {
		have := vec.Vec{r.Uint64() % 4, r.Uint64() % 4, r.Uint64() % 4, r.Uint64() % 4}
		s := stamp.Stamp{Vec: vec.Vec{r.Uint64() % 4, r.Uint64() % 4, r.Uint64() % 4, r.Uint64() % 4}, DC: 1 + r.Intn(4)}
		if Ready(have, s) != Next {
			continue
		}
		nexts++
		behind := vec.With(have, s.DC, s.N())
		follows := stamp.Stamp{Vec: vec.With(s.Vec, s.DC, s.N()+1), DC: s.DC}
		if Ready(behind, s) != Old || Ready(have, follows) != Wait || Ready(behind, follows) != Next {
			t.Fatalf("%v at %v: behind it %d; what follows %d, then %d", s, have, Ready(behind, s), Ready(have, follows), Ready(behind, follows))
		}
	}
	if nexts < 500 {
		t.Errorf("only %d are Next", nexts)
	}
}
