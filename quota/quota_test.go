package quota

import (
	"maps"
	"math"
	"math/rand"
	"slices"
	"strconv"
	"strings"
	"testing"
	"unsafe"

	"tenement/api"
	"tenement/item"
)

// fresh is a new quota of that limit.
func fresh(t *testing.T, limit int) *Quota {
	t.Helper()
	q, e := New(limit)
	if q == nil || e != api.OK {
		t.Fatal("New", limit, q, e)
	}
	return q
}

// w writes a key of bucket b: 2 bytes and those of the value, if the key has one.
func w(key, value string) item.Write {
	return item.Write{Bucket: "b", Key: key, Value: value}
}

// gone is a key of bucket b that goes.
func gone(key string) item.Write {
	return item.Write{Bucket: "b", Key: key, Gone: true}
}

// sized is a write of that key of one byte that takes so many bytes, from 2 on.
func sized(key string, bytes int) item.Write {
	return w(key, strings.Repeat("v", bytes-2))
}

// wrongWrites: not right by one thing, or by several.
func wrongWrites() []item.Write {
	long := strings.Repeat("x", 17)
	return []item.Write{
		{},
		{Key: "a", Value: "v"},
		{Bucket: "b", Value: "v"},
		{Key: "a", Gone: true},
		{Bucket: "b", Gone: true},
		{Bucket: long, Key: "a", Value: "v"},
		{Bucket: "b", Key: long, Value: "v"},
		{Bucket: "b", Key: long, Gone: true},
		{Bucket: "b", Key: "a", Value: strings.Repeat("v", 33)},
		{Bucket: "b", Key: "a", Value: "v", Gone: true},
		{Bucket: "b", Key: "a", Value: "\x00", Gone: true},
		{Bucket: "b", Key: "a", Value: strings.Repeat("v", 33), Gone: true},
		{Bucket: strings.Repeat(long, 9), Key: strings.Repeat(long, 9), Value: strings.Repeat(long, 9)},
	}
}

// wantHas: so many bytes are used, by so many keys, and a list of nothing turns nothing of it.
func wantHas(t *testing.T, what string, q *Quota, used, keys int) {
	t.Helper()
	if q.Used() != used || q.Keys() != keys {
		t.Fatalf("%s: %d used, by %d keys; want %d, by %d", what, q.Used(), q.Keys(), used, keys)
	}
	if q.After(nil) != used || q.After([]item.Write{}) != used || !q.Fits(nil) || !q.Fits([]item.Write{}) {
		t.Fatalf("%s: behind nothing %d, of %d used", what, q.After(nil), used)
	}
}

// wantAfter: so many bytes would be used behind l, and asking turns nothing.
func wantAfter(t *testing.T, what string, q *Quota, l []item.Write, after int) {
	t.Helper()
	used, keys, limit := q.Used(), q.Keys(), q.Limit()
	for range 2 {
		if got := q.After(l); got != after {
			t.Fatalf("%s: After %d, want %d", what, got, after)
		}
		if got := q.Fits(l); got != (after <= limit) {
			t.Fatalf("%s: Fits %v of %d at %d", what, got, after, limit)
		}
	}
	if q.Used() != used || q.Keys() != keys || q.Limit() != limit {
		t.Fatalf("%s: After or Fits turned something", what)
	}
}

// wantTaken: l is taken, as After and Fits told ahead of it.
func wantTaken(t *testing.T, what string, q *Quota, l []item.Write, used, keys int) {
	t.Helper()
	limit := q.Limit()
	wantAfter(t, what, q, l, used)
	if !q.Take(l) {
		t.Fatal(what, "not taken")
	}
	wantHas(t, what, q, used, keys)
	if q.Limit() != limit {
		t.Fatal(what, "Limit", q.Limit())
	}
}

// wantRefused: l, behind which so many bytes would be used, does not fit, and nothing turns: not what any of the probes tells either.
func wantRefused(t *testing.T, what string, q *Quota, l []item.Write, after int, probes ...[]item.Write) {
	t.Helper()
	used, keys, limit := q.Used(), q.Keys(), q.Limit()
	var told []int
	for _, p := range probes {
		told = append(told, q.After(p))
	}
	wantAfter(t, what, q, l, after)
	for range 2 {
		if q.Fits(l) || q.Take(l) {
			t.Fatal(what, "taken")
		}
		wantHas(t, what, q, used, keys)
		if q.Limit() != limit {
			t.Fatal(what, "Limit", q.Limit())
		}
	}
	for i, p := range probes {
		wantAfter(t, what+", probe "+strconv.Itoa(i), q, p, told[i])
	}
}

// TestNew (P13.1): the limits that may be, from 0 to 2^30; the chapter's example: Used of a new one is 0.
func TestNew(t *testing.T) {
	for _, limit := range []int{0, 1, 2, 3, 10, 1 << 10, 1<<24 + 1, 1<<30 - 1, 1 << 30} {
		q := fresh(t, limit)
		wantHas(t, "new", q, 0, 0)
		if q.Limit() != limit {
			t.Error("Limit", limit, q.Limit())
		}
	}
}

// TestNewWrong (P13.1, P2, P6): below 0, above 2^30, at the ends of 64 bits, and what comes to a right one in 32 bits.
func TestNewWrong(t *testing.T) {
	for _, limit := range []int{-1, -2, -10, -1 << 30, -1 << 32, -1<<32 + 5, math.MinInt, math.MinInt + 1, 1<<30 + 1, 1<<30 + 2, 1 << 31, 1 << 32, 1<<32 + 5, math.MaxInt - 1, math.MaxInt} {
		if q, e := New(limit); q != nil || e != api.ErrArg {
			t.Error(limit, q, e)
		}
	}
}

// TestKnown (P13.1): lists that are taken one behind the other, with numbers worked out by hand.
func TestKnown(t *testing.T) {
	q := fresh(t, 40)
	for i, c := range []struct {
		l          []item.Write
		used, keys int
	}{
		{[]item.Write{w("a", "1")}, 3, 1},
		{[]item.Write{w("c", "123456")}, 11, 2},
		{[]item.Write{w("a", "1")}, 11, 2},
		{[]item.Write{w("a", "12345")}, 15, 2},
		{[]item.Write{w("a", ""), w("d", "x")}, 13, 3},
		{[]item.Write{{Bucket: "other", Key: "a", Value: "1"}}, 20, 4},
		{[]item.Write{w("a", "12")}, 22, 4},
		{[]item.Write{gone("c")}, 14, 3},
		{[]item.Write{{Bucket: "other", Key: "a", Gone: true}, w("c", "é")}, 11, 3},
		{[]item.Write{w("key", "value"), {Bucket: "bucket", Key: "key", Value: "value"}}, 34, 5},
		{nil, 34, 5},
		{[]item.Write{}, 34, 5},
		{[]item.Write{gone("a"), gone("key"), {Bucket: "bucket", Key: "key", Gone: true}}, 7, 2},
		{[]item.Write{gone("d"), gone("c")}, 0, 0},
		{[]item.Write{w("a", "1")}, 3, 1},
	} {
		wantTaken(t, strconv.Itoa(i), q, c.l, c.used, c.keys)
	}
}

// TestSizes (P13.1): all lengths of Bucket, Key and Value that may be count as many bytes as they have together, none of it twice.
func TestSizes(t *testing.T) {
	for _, b := range []int{1, 2, 15, 16} {
		for _, k := range []int{1, 2, 15, 16} {
			for _, v := range []int{0, 1, 31, 32} {
				one := item.Write{Bucket: strings.Repeat("b", b), Key: strings.Repeat("k", k), Value: strings.Repeat("v", v)}
				q := fresh(t, 64)
				wantTaken(t, "one", q, []item.Write{one}, b+k+v, 1)
				wantTaken(t, "again", q, []item.Write{one, one}, b+k+v, 1)
				one.Value, one.Gone = "", true
				wantTaken(t, "gone", q, []item.Write{one}, 0, 0)
			}
		}
	}
}

// TestLastCounts (P13.1): of one key only what was last taken counts, in one list and over several, whether that is more or less than what was ahead of it.
func TestLastCounts(t *testing.T) {
	sizes := []int{3, 9, 2, 2, 30, 8, 34, 5}
	q, one := fresh(t, 34), fresh(t, 34)
	var all []item.Write
	for _, n := range sizes {
		wantTaken(t, "behind another", q, []item.Write{sized("k", n)}, n, 1)
		all = append(all, sized("k", n))
		wantTaken(t, "all of them", one, all, n, 1)
		wantTaken(t, "all, to a new one", fresh(t, n), all, n, 1)
	}
	all = append(all, gone("k"))
	wantTaken(t, "gone at the end", one, all, 0, 0)
	all = append(all, sized("k", 7))
	wantTaken(t, "there again", one, all, 7, 1)
}

// TestOneKeyMany (P13.1, P1): a long list of one key, and of two by turns: only the last of each counts.
func TestOneKeyMany(t *testing.T) {
	const many = 100000
	l := slices.Repeat([]item.Write{sized("k", 34)}, many)
	q := fresh(t, 34)
	wantTaken(t, "many", q, l, 34, 1)
	l[many-1] = sized("k", 2)
	wantTaken(t, "the last is less", q, l, 2, 1)
	for i := 0; i < many; i += 2 {
		l[i] = sized("z", 20)
	}
	l[many-2] = sized("z", 3)
	wantTaken(t, "two by turns", q, l, 5, 2)
	l[many-1] = gone("k")
	wantTaken(t, "one of them gone", q, l, 3, 1)
}

// TestManyKeys (P13.1): a list may be longer than a transaction, and each key of it counts.
func TestManyKeys(t *testing.T) {
	const many = 1 << 12
	q := fresh(t, many*10)
	var l, back []item.Write
	for i := range many {
		l = append(l, item.Write{Bucket: "bk", Key: strconv.Itoa(10000 + i), Value: "123"})
		if i%2 == 1 {
			back = append(back, item.Write{Bucket: "bk", Key: strconv.Itoa(10000 + i), Gone: true})
		}
	}
	wantTaken(t, "all", q, l, many*10, many)
	wantRefused(t, "one more", q, []item.Write{w("a", "")}, many*10+2, back, l)
	wantTaken(t, "each second gone", q, back, many*5, many/2)
	wantTaken(t, "all again", q, l, many*10, many)
}

// TestNames (P13.1): a key of another bucket is another one, though their bytes are the same together.
func TestNames(t *testing.T) {
	pairs := [][2]string{
		{"ab", "c"}, {"a", "bc"}, {"c", "ab"}, {"bc", "a"}, {"a", "a"}, {"aa", "a"}, {"a", "aa"}, {"b", "a"}, {"a", "b"}, {"A", "b"},
		{"a\x00", "b"}, {"a", "\x00b"}, {"\x00", "\x00\x00"}, {"\x00\x00", "\x00"}, {"a/", "b"}, {"a", "/b"}, {"a\x01", "b"}, {"a", "\x01b"},
		{"\xff", "\xfe"}, {"\xfe", "\xff"}, {"\xef\xbf\xbd", "k"}, {"\xff", "k"}, {"é", "k"}, {"e\u0301", "k"},
		{strings.Repeat("n", 16), strings.Repeat("n", 16)}, {strings.Repeat("n", 15), strings.Repeat("n", 16)}, {strings.Repeat("n", 16), strings.Repeat("n", 15)},
	}
	q := fresh(t, 1000)
	used := 0
	for i, p := range pairs {
		used += len(p[0]) + len(p[1]) + 1
		wantTaken(t, "written", q, []item.Write{{Bucket: p[0], Key: p[1], Value: "v"}}, used, i+1)
	}
	for i, p := range pairs {
		used -= len(p[0]) + len(p[1]) + 1
		wantTaken(t, "gone", q, []item.Write{{Bucket: p[0], Key: p[1], Gone: true}}, used, len(pairs)-i-1)
	}
}

// TestGone (P13.1): a key that is gone counts nothing, nor one that was never there; what is written again counts as if it were new.
func TestGone(t *testing.T) {
	q := fresh(t, 12)
	wantTaken(t, "never there", q, []item.Write{gone("a"), gone("z")}, 0, 0)
	wantTaken(t, "written", q, []item.Write{sized("a", 5), sized("c", 7)}, 12, 2)
	wantTaken(t, "another one, never there", q, []item.Write{gone("z"), {Bucket: "c", Key: "a", Gone: true}}, 12, 2)
	wantTaken(t, "gone", q, []item.Write{gone("a")}, 7, 1)
	wantTaken(t, "gone again", q, []item.Write{gone("a"), gone("a")}, 7, 1)
	wantTaken(t, "written again", q, []item.Write{sized("a", 4)}, 11, 2)
	wantTaken(t, "written, and gone", q, []item.Write{sized("d", 9), gone("d")}, 11, 2)
	wantTaken(t, "gone, and written", q, []item.Write{gone("a"), sized("a", 5)}, 12, 2)
	wantTaken(t, "written, gone, written", q, []item.Write{sized("a", 2), gone("a"), sized("a", 3)}, 10, 2)
	wantTaken(t, "all gone", q, []item.Write{gone("c"), gone("a")}, 0, 0)
	wantTaken(t, "as if it were new", q, []item.Write{sized("c", 12)}, 12, 1)
}

// TestNoValue (P13.1): a key that has no bytes as its value is there: it counts with its names.
func TestNoValue(t *testing.T) {
	q := fresh(t, 4)
	wantTaken(t, "two", q, []item.Write{w("a", ""), w("c", "")}, 4, 2)
	wantRefused(t, "three", q, []item.Write{w("d", "")}, 6)
	wantTaken(t, "one gone", q, []item.Write{gone("a")}, 2, 1)
}

// TestWrongWrites (P13.1): of what is no right Write nothing is taken, alone, or in the midst of others, which are.
func TestWrongWrites(t *testing.T) {
	for i, wrong := range wrongWrites() {
		what := strconv.Itoa(i)
		q := fresh(t, 20)
		wantTaken(t, what+", alone", q, []item.Write{wrong}, 0, 0)
		wantTaken(t, what+", in the midst", q, []item.Write{sized("a", 4), wrong, sized("c", 3)}, 7, 2)
		wantTaken(t, what+", alone again", q, []item.Write{wrong, wrong}, 7, 2)
		wantTaken(t, what+", at the ends", q, []item.Write{wrong, sized("a", 17), wrong}, 20, 2)
		wantRefused(t, what+", in one that does not fit", q, []item.Write{wrong, sized("d", 2), wrong}, 22, []item.Write{gone("a")}, []item.Write{wrong})
		wantTaken(t, what+", alone, at the limit", q, []item.Write{wrong}, 20, 2)
		wantTaken(t, what+", of one that goes", q, []item.Write{gone("a"), wrong}, 3, 1)
	}
	wantTaken(t, "all of them", fresh(t, 0), wrongWrites(), 0, 0)
}

// TestWrongLimitZero (P13.1): where nothing may be used, what is not right fits, for it takes nothing.
func TestWrongLimitZero(t *testing.T) {
	for i, wrong := range wrongWrites() {
		wantTaken(t, strconv.Itoa(i), fresh(t, 0), []item.Write{wrong}, 0, 0)
	}
}

// TestLimitZero (P13.1): a limit of 0 lets in nothing but what takes nothing.
func TestLimitZero(t *testing.T) {
	q := fresh(t, 0)
	wantRefused(t, "the least there is", q, []item.Write{w("a", "")}, 2, []item.Write{gone("a")})
	wantTaken(t, "gone", q, []item.Write{gone("a")}, 0, 0)
	wantTaken(t, "there, and gone", q, []item.Write{w("a", "123"), gone("a")}, 0, 0)
	wantTaken(t, "nothing", q, nil, 0, 0)
	wantRefused(t, "gone, and there", q, []item.Write{gone("a"), w("a", "")}, 2)
}

// TestLimitMost (P13.1): the greatest limit is told, and lets in what others refuse.
func TestLimitMost(t *testing.T) {
	q := fresh(t, 1<<30)
	wantTaken(t, "one", q, []item.Write{sized("a", 34)}, 34, 1)
	if q.Limit() != 1073741824 {
		t.Error(q.Limit())
	}
}

// TestToTheByte (P13.1): what comes to the limit fits, and one byte more does not, whatever is there already.
func TestToTheByte(t *testing.T) {
	for limit := 2; limit <= 34; limit++ {
		q := fresh(t, limit)
		if limit < 34 {
			wantRefused(t, "one byte too much", q, []item.Write{sized("k", limit+1)}, limit+1)
		}
		wantTaken(t, "to the byte", q, []item.Write{sized("k", limit)}, limit, 1)
		wantTaken(t, "the same again", q, []item.Write{sized("k", limit)}, limit, 1)
		wantRefused(t, "another one", q, []item.Write{sized("z", 2)}, limit+2, []item.Write{gone("k")}, []item.Write{gone("z")})
		if limit < 34 {
			wantRefused(t, "one byte more", q, []item.Write{sized("k", limit+1)}, limit+1, []item.Write{gone("k")})
		}
		wantTaken(t, "another one instead", q, []item.Write{sized("z", limit), gone("k")}, limit, 1)
	}
	full := fresh(t, 64)
	whole := item.Write{Bucket: strings.Repeat("b", 16), Key: strings.Repeat("k", 16), Value: strings.Repeat("v", 32)}
	wantTaken(t, "the greatest write", full, []item.Write{whole}, 64, 1)
	wantRefused(t, "the greatest write, to less", fresh(t, 63), []item.Write{whole}, 64)
}

// TestMidst (P13.1): only what a list comes to at its end is held against the limit, not what it comes to in its midst.
func TestMidst(t *testing.T) {
	q := fresh(t, 10)
	wantTaken(t, "above in the midst, by one key", q, []item.Write{sized("a", 30), sized("a", 4)}, 4, 1)
	wantTaken(t, "above in the midst, by two", q, []item.Write{sized("c", 8), gone("a")}, 8, 1)
	wantTaken(t, "above at the beginning", q, []item.Write{sized("c", 34), sized("d", 34), gone("d"), sized("c", 10)}, 10, 1)
	wantRefused(t, "above at the end, below in the midst", q, []item.Write{gone("c"), sized("a", 3), sized("c", 8)}, 11, []item.Write{gone("c")}, []item.Write{gone("a")})
	wantRefused(t, "each fits alone, both do not", q, []item.Write{sized("c", 6), sized("a", 5)}, 11, []item.Write{gone("c")}, []item.Write{gone("a")})
	wantTaken(t, "the other way round", q, []item.Write{sized("a", 5), sized("c", 5)}, 10, 2)
}

// TestRefused (P13.1, P13.3, P2): of a list that does not fit nothing turns: not what is used, nor by how many, nor what any list would come to.
func TestRefused(t *testing.T) {
	q := fresh(t, 20)
	wantTaken(t, "first", q, []item.Write{sized("a", 4), sized("c", 6), {Bucket: "z", Key: "a", Value: "x"}}, 13, 3)
	var probes [][]item.Write
	for _, bucket := range []string{"b", "z", "new"} {
		for _, key := range []string{"a", "c", "d", "e"} {
			probes = append(probes, []item.Write{{Bucket: bucket, Key: key, Gone: true}}, []item.Write{{Bucket: bucket, Key: key, Value: "abcde"}})
		}
	}
	for i, c := range []struct {
		l     []item.Write
		after int
	}{
		{[]item.Write{sized("d", 8)}, 21},
		{[]item.Write{sized("a", 12)}, 21},
		{[]item.Write{sized("a", 2), sized("c", 3), sized("d", 13)}, 21},
		{[]item.Write{gone("a"), sized("d", 34)}, 43},
		{[]item.Write{sized("d", 34), gone("a")}, 43},
		{[]item.Write{gone("a"), gone("c"), {Bucket: "z", Key: "a", Gone: true}, sized("e", 21)}, 21},
		{[]item.Write{{Bucket: "z", Key: "a", Value: strings.Repeat("v", 30)}, {}}, 42},
		{[]item.Write{{Bucket: "new", Key: "d", Value: "vvvv"}}, 21},
		{slices.Repeat([]item.Write{sized("d", 3), sized("d", 34)}, 50), 47},
	} {
		wantRefused(t, strconv.Itoa(i), q, c.l, c.after, probes...)
	}
	wantTaken(t, "one that fits, behind all these", q, []item.Write{sized("d", 7)}, 20, 4)
}

// TestApart (P13.1): what one quota takes is nothing to another one.
func TestApart(t *testing.T) {
	a, b := fresh(t, 10), fresh(t, 5)
	wantTaken(t, "a", a, []item.Write{sized("k", 8)}, 8, 1)
	wantHas(t, "b", b, 0, 0)
	wantTaken(t, "b", b, []item.Write{sized("k", 3), sized("z", 2)}, 5, 2)
	wantTaken(t, "a", a, []item.Write{gone("k")}, 0, 0)
	wantHas(t, "b", b, 5, 2)
	if a.Limit() != 10 || b.Limit() != 5 {
		t.Error("Limit", a.Limit(), b.Limit())
	}
}

// TestListStays (P3): neither a list is written into, nor what stands behind it in its array.
func TestListStays(t *testing.T) {
	array := []item.Write{sized("a", 3), {}, sized("a", 9), gone("c"), sized("z", 4), sized("y", 5)}
	before := slices.Clone(array)
	q := fresh(t, 9)
	for _, many := range []int{0, 1, 3, 4} {
		q.After(array[:many])
		q.Fits(array[:many])
		if !q.Take(array[:many]) {
			t.Fatal("not taken", many)
		}
		q.Take(array)
		if !slices.Equal(array, before) {
			t.Fatal(many, array)
		}
	}
	wantHas(t, "taken", q, 9, 1)
}

// TestListNotKept (P3): what becomes of a list once it is taken is nothing to the quota.
func TestListNotKept(t *testing.T) {
	l := []item.Write{sized("a", 3), sized("c", 9)}
	q := fresh(t, 12)
	wantTaken(t, "taken", q, l, 12, 2)
	l[0], l[1] = gone("a"), sized("z", 34)
	wantHas(t, "behind it", q, 12, 2)
	wantAfter(t, "a", q, []item.Write{gone("a")}, 9)
	wantAfter(t, "c", q, []item.Write{gone("c")}, 3)
	wantAfter(t, "z", q, []item.Write{gone("z")}, 12)
}

// TestTextsNotKept (P3): nor are the texts of its writes kept, of a key that is new, or of one that is there: here they stand in bytes that are turned behind the Take.
func TestTextsNotKept(t *testing.T) {
	for _, there := range []bool{false, true} {
		q := fresh(t, 20)
		if there {
			wantTaken(t, "there", q, []item.Write{{Bucket: "bucket", Key: "key", Value: "1234567"}}, 16, 1)
		}
		bytes := []byte("bucketkeyvalue")
		text := unsafe.String(&bytes[0], len(bytes))
		wantTaken(t, "taken", q, []item.Write{{Bucket: text[:6], Key: text[6:9], Value: text[9:]}}, 14, 1)
		for i := range bytes {
			bytes[i] = '-'
		}
		wantHas(t, "turned", q, 14, 1)
		wantAfter(t, "of these bytes", q, []item.Write{{Bucket: "------", Key: "---", Value: "-"}}, 24)
		wantTaken(t, "of those that were taken", q, []item.Write{{Bucket: "bucket", Key: "key", Value: "v"}}, 10, 1)
		wantTaken(t, "gone", q, []item.Write{{Bucket: "bucket", Key: "key", Gone: true}}, 0, 0)
	}
}

// tallies tries the values of l under as many keys of one kind.
func tallies[K comparable](t *testing.T, want int, l []int, key func(i int) K) {
	t.Helper()
	m := map[K]int{}
	for i, n := range l {
		m[key(i)] = n
	}
	if len(m) != len(l) {
		t.Fatal("two keys are the same")
	}
	before := maps.Clone(m)
	for range 3 {
		if got := Tally(m); got != want {
			t.Fatalf("Tally %v = %d, want %d", m, got, want)
		}
	}
	if !maps.Equal(m, before) {
		t.Fatal("written into", m)
	}
}

// allTallies tries l with keys of several kinds.
func allTallies(t *testing.T, want int, l ...int) {
	t.Helper()
	tallies(t, want, l, func(i int) int { return i - 2 })
	tallies(t, want, l, func(i int) uint8 { return uint8(255 - i) })
	tallies(t, want, l, func(i int) rune { return rune('日' + i) })
	tallies(t, want, l, func(i int) string { return strings.Repeat("\x00", i) })
	tallies(t, want, l, func(i int) [2]int { return [2]int{i % 2, i} })
	tallies(t, want, l, func(i int) item.Write { return item.Write{Key: strconv.Itoa(i), Gone: i%2 == 0} })
	if len(l) <= 2 {
		tallies(t, want, l, func(i int) bool { return i == 1 })
	}
	if len(l) <= 1 {
		tallies(t, want, l, func(int) struct{} { return struct{}{} })
	}
}

// TestTally (P13.2): the sum of all values, of none, of one, of several, of such that are below 0, or are the same.
func TestTally(t *testing.T) {
	allTallies(t, 0)
	allTallies(t, 7, 7)
	allTallies(t, -7, -7)
	allTallies(t, 0, 0)
	allTallies(t, 12, 5, 7)
	allTallies(t, -2, 5, -7)
	allTallies(t, 0, 7, -7)
	allTallies(t, 21, 7, 7, 7)
	allTallies(t, 15, 1, 2, 3, 4, 5)
	allTallies(t, -6, -1, -2, 0, -3)
	allTallies(t, 3<<40-5, 1<<40, 1<<41, -5)
	if got := Tally(map[string]int(nil)); got != 0 {
		t.Error("nil", got)
	}
	if got := Tally[[4]uint64](nil); got != 0 {
		t.Error("nil", got)
	}
}

// TestTallyWraps (P13.2, P6): a sum is modulo 2^64.
func TestTallyWraps(t *testing.T) {
	allTallies(t, math.MinInt, math.MaxInt, 1)
	allTallies(t, math.MaxInt, math.MinInt, -1)
	allTallies(t, -2, math.MaxInt, math.MaxInt)
	allTallies(t, 0, math.MinInt, math.MinInt)
	allTallies(t, -1, math.MinInt, math.MaxInt)
	allTallies(t, math.MaxInt, math.MaxInt, math.MaxInt, math.MaxInt, 2)
	allTallies(t, 5, 1<<62, 1<<62, 1<<62, 1<<62, 5)
}

// kind is a map of a type with a name.
type kind map[string]int

// TestTallyAnyKey (P13.2): each value counts though its key is never found again, or is anything.
func TestTallyAnyKey(t *testing.T) {
	floats := map[float64]int{1: 1, math.Inf(1): 2}
	for range 3 {
		floats[math.NaN()] = 10
	}
	if got := Tally(floats); got != 33 {
		t.Error("NaN", got)
	}
	if got := Tally(map[any]int{nil: 1, 1: 2, "1": 4, 1.0: 8, [1]int{1}: 16}); got != 31 {
		t.Error("any", got)
	}
	if got := Tally(kind{"a": 1, "b": 2}); got != 3 {
		t.Error("kind", got)
	}
}

// TestTallyMany (P13.2, P4): of many values the sum is the same, in whatever order they went in, or were taken out.
func TestTallyMany(t *testing.T) {
	const many = 20000
	m, back := map[int]int{}, map[int]int{}
	for i := range many {
		m[i] = i*i - 1000
		back[many-1-i] = (many-1-i)*(many-1-i) - 1000
	}
	want := (many-1)*many*(2*many-1)/6 - 1000*many
	if Tally(m) != want || Tally(back) != want {
		t.Error(Tally(m), Tally(back), want)
	}
	for i := range many / 2 {
		delete(m, 2*i)
		want -= 4*i*i - 1000
	}
	if Tally(m) != want {
		t.Error(Tally(m), want)
	}
}

// model has all right writes that were taken, in order, and looks through all of them for each answer.
type model struct {
	limit int
	taken []item.Write
}

// has is how many bytes are used, and by how many keys, behind l.
func (m *model) has(l []item.Write) (used, keys int) {
	all := append(slices.Clone(m.taken), l...)
	var known [][2]string
	for _, last := range slices.Backward(all) {
		names := [2]string{last.Bucket, last.Key}
		if !rightByHand(last) || slices.Contains(known, names) {
			continue
		}
		known = append(known, names)
		if !last.Gone {
			used += len(last.Bucket) + len(last.Key) + len(last.Value)
			keys++
		}
	}
	return used, keys
}

// rightByHand: as chapter 8 says it.
func rightByHand(w item.Write) bool {
	if len(w.Bucket) < 1 || len(w.Bucket) > 16 || len(w.Key) < 1 || len(w.Key) > 16 {
		return false
	}
	return len(w.Value) <= 32 && (!w.Gone || len(w.Value) == 0)
}

// anyWrite is some write: of few names, so that many are of one key; now and then one that is not right.
func anyWrite(r *rand.Rand, names int) item.Write {
	if r.Intn(9) == 0 {
		l := wrongWrites()
		return l[r.Intn(len(l))]
	}
	out := item.Write{Bucket: strings.Repeat("b", 1+r.Intn(2)), Key: strings.Repeat("b", 1+r.Intn(names))}
	if r.Intn(4) == 0 {
		out.Gone = true
	} else {
		out.Value = strings.Repeat("v", r.Intn(12))
	}
	return out
}

// script takes lists as they come, and holds each answer against the model's; it tells how many were taken, how many were refused, and how many came to the limit.
func script(t *testing.T, r *rand.Rand, limit, steps int) (taken, refused, met int) {
	t.Helper()
	q, m := fresh(t, limit), &model{limit: limit}
	names := 1 + r.Intn(6)
	for range steps {
		var l []item.Write
		for range r.Intn(7) {
			l = append(l, anyWrite(r, names))
		}
		after, _ := m.has(l)
		wantAfter(t, "script", q, l, after)
		if ok := q.Take(l); ok != (after <= limit) {
			t.Fatal("Take", ok, after, limit)
		}
		if after <= limit {
			taken++
			m.taken = append(m.taken, l...)
		} else {
			refused++
		}
		used, keys := m.has(nil)
		wantHas(t, "script", q, used, keys)
		if q.Used() > q.Limit() || q.Limit() != limit {
			t.Fatal("above the limit", q.Used(), q.Limit())
		}
		if used == limit {
			met++
		}
	}
	return taken, refused, met
}

// TestScripts (P13.1, P13.3): long scripts at several limits tell what the model tells, and never is more used than may be.
func TestScripts(t *testing.T) {
	r := rand.New(rand.NewSource(13))
	var taken, refused, met int
	for i := range 300 {
		limit := []int{0, 2, 7, 15, 30, 60, 100, 1 << 30}[i%8]
		a, b, c := script(t, r, limit, 40)
		taken, refused, met = taken+a, refused+b, met+c
	}
	if taken < 2000 || refused < 2000 || met < 500 {
		t.Error("the scripts try too little", taken, refused, met)
	}
}

// TestSameAgain (P4): two quotas to which the same is done tell the same, though one was asked more in between.
func TestSameAgain(t *testing.T) {
	a, b := fresh(t, 50), fresh(t, 50)
	one, two := rand.New(rand.NewSource(4)), rand.New(rand.NewSource(4))
	for range 500 {
		x, y := []item.Write{anyWrite(one, 6), anyWrite(one, 6)}, []item.Write{anyWrite(two, 6), anyWrite(two, 6)}
		for range 3 {
			b.After(slices.Repeat(y, 3))
			b.Fits([]item.Write{gone("b"), y[1]})
			b.Used()
			b.Keys()
		}
		if a.Take(x) != b.Take(y) || a.Used() != b.Used() || a.Keys() != b.Keys() || a.After(x[:1]) != b.After(y[:1]) {
			t.Fatal("not the same", a.Used(), b.Used())
		}
	}
}
