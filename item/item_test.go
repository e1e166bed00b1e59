package item

import (
	"encoding/binary"
	"hash/crc32"
	"math"
	"slices"
	"strconv"
	"strings"
	"testing"

	"tenement/api"
	"tenement/stamp"
	"tenement/vec"
)

// someStamp is a right one.
func someStamp() stamp.Stamp {
	return stamp.Stamp{Vec: vec.Vec{0, 2, 0, 0}, DC: 2}
}

// rightStamps: ordinary ones, and of the least and the greatest numbers and datacenters.
func rightStamps() []stamp.Stamp {
	return []stamp.Stamp{
		someStamp(),
		{Vec: vec.Vec{1, 0, 0, 0}, DC: 1},
		{Vec: vec.Vec{300, 128, 127, 16384}, DC: 3},
		{Vec: vec.Vec{vec.Most, vec.Most, vec.Most, vec.Most}, DC: 4},
	}
}

// wrongStamps: no datacenter, no number there, or a number that is too great.
func wrongStamps() []stamp.Stamp {
	return []stamp.Stamp{
		{},
		{Vec: vec.Vec{1, 1, 1, 1}, DC: 0},
		{Vec: vec.Vec{1, 1, 1, 1}, DC: -1},
		{Vec: vec.Vec{1, 1, 1, 1}, DC: api.MaxDCs + 1},
		{Vec: vec.Vec{1, 1, 1, 1}, DC: 257},
		{Vec: vec.Vec{1, 1, 1, 1}, DC: math.MinInt},
		{Vec: vec.Vec{1, 1, 1, 1}, DC: math.MaxInt},
		{Vec: vec.Vec{0, 9, 9, 9}, DC: 1},
		{Vec: vec.Vec{9, 9, 9, 0}, DC: 4},
		{Vec: vec.Vec{1, vec.Most + 1, 1, 1}, DC: 1},
		{Vec: vec.Vec{math.MaxUint64, 1, 1, 1}, DC: 1},
	}
}

// long is a text of many bytes that has each of its own.
func long(many int) string {
	out := make([]byte, many)
	for i := range out {
		out[i] = byte('a' + i%26)
	}
	return string(out)
}

// rightWrites: ordinary ones, and at the edges of each length; no two of one Bucket and Key.
func rightWrites() []Write {
	return []Write{
		{Bucket: "b", Key: "k", Value: "vv"},
		{Bucket: "b", Key: "z", Gone: true},
		{Bucket: "z", Key: "b"},
		{Bucket: "ab", Key: "c", Value: "1"},
		{Bucket: "a", Key: "bc", Value: "2"},
		{Bucket: "other", Key: "k", Value: "vv"},
		{Bucket: long(api.MaxKey), Key: long(api.MaxKey), Value: long(api.MaxValue)},
		{Bucket: long(api.MaxKey), Key: "k", Gone: true},
		{Bucket: "b", Key: long(api.MaxKey), Value: "\x00"},
		{Bucket: "\x00", Key: "\x00\x00", Value: "\x00\x00\x00"},
		{Bucket: "\xff\xfe", Key: "\x80", Value: "\xc3("},
		{Bucket: "größe", Key: "日本", Value: "日本日本日本日本日本"},
	}
}

// wrongWrites: each not right by one thing alone, but for the first.
func wrongWrites() []Write {
	return []Write{
		{},
		{Key: "k", Value: "v"},
		{Bucket: "b", Value: "v"},
		{Key: "k", Gone: true},
		{Bucket: "b", Gone: true},
		{Bucket: long(api.MaxKey + 1), Key: "k", Value: "v"},
		{Bucket: "b", Key: long(api.MaxKey + 1), Value: "v"},
		{Bucket: long(api.MaxKey + 1), Key: "k", Gone: true},
		{Bucket: "b", Key: "k", Value: long(api.MaxValue + 1)},
		{Bucket: "b", Key: "k", Value: "v", Gone: true},
		{Bucket: "b", Key: "k", Value: "\x00", Gone: true},
		{Bucket: "b", Key: "k", Value: long(api.MaxValue + 1), Gone: true},
		{Bucket: "日本日本日本", Key: "k", Value: "v"}, // 6 runes, 18 bytes
		{Bucket: long(300), Key: long(300), Value: long(1000)},
	}
}

// numbered: many right writes, no two of one Bucket and Key, with something Gone among them.
func numbered(many int) []Write {
	var out []Write
	for i := range many {
		w := Write{Bucket: "b" + strconv.Itoa(i%3), Key: "k" + strconv.Itoa(i), Value: strings.Repeat("v", i%5)}
		if i%4 == 3 {
			w.Value, w.Gone = "", true
		}
		out = append(out, w)
	}
	return out
}

// wholes: transactions of one, of several and of as many writes as may be.
func wholes() []Txn {
	var out []Txn
	for _, s := range rightStamps() {
		for _, w := range rightWrites() {
			out = append(out, Txn{s, []Write{w}})
		}
		for many := 1; many <= api.MaxWrites; many++ {
			out = append(out, Txn{s, numbered(many)}, Txn{s, rightWrites()[:many]}, Txn{s, rightWrites()[4:min(4+many, 12)]})
		}
	}
	return out
}

// bytesOf is P8.3's word by the library's numbers, of whatever can be spelt so, whole or not.
func bytesOf(t Txn) string {
	return spelt(t, byte(len(t.Writes)))
}

// spelt is bytesOf with another byte of how many.
func spelt(t Txn, many byte) string {
	text := func(out []byte, s string) []byte {
		return append(binary.AppendUvarint(out, uint64(len(s))), s...)
	}
	out := []byte{byte(t.Stamp.DC)}
	for _, n := range t.Stamp.Vec {
		out = binary.AppendUvarint(out, n)
	}
	out = append(out, many)
	for _, w := range t.Writes {
		out = text(text(out, w.Bucket), w.Key)
		if w.Gone {
			out = append(out, 1)
		} else {
			out = text(append(out, 0), w.Value)
		}
	}
	return string(out)
}

// copied is t with a list of its own.
func copied(t Txn) Txn {
	return Txn{t.Stamp, slices.Clone(t.Writes)}
}

// wantNone: s is the bytes of no transaction, and nothing is told of it.
func wantNone(t *testing.T, what, s string) {
	t.Helper()
	if got, ok := Read(s); ok || got.Stamp != (stamp.Stamp{}) || len(got.Writes) != 0 {
		t.Errorf("%s: Read(%x) = %v, %v; want none", what, s, got, ok)
	}
}

// wantNotWhole: it is not whole, and has no bytes.
func wantNotWhole(t *testing.T, what string, x Txn) {
	t.Helper()
	if s, ok := Bytes(x); Whole(x) || s != "" || ok {
		t.Errorf("%s: %v: whole %v; bytes %x, %v", what, x, Whole(x), s, ok)
	}
}

// wantWhole: it is whole, and has bytes that are read to the same.
func wantWhole(t *testing.T, what string, x Txn) {
	t.Helper()
	s, ok := Bytes(x)
	if !Whole(x) || !ok || s != bytesOf(x) {
		t.Errorf("%s: %v: whole %v; bytes %x, %v; want %x", what, x, Whole(x), s, ok, bytesOf(x))
	}
	if got, ok := Read(s); !ok || got.Stamp != x.Stamp || !slices.Equal(got.Writes, x.Writes) {
		t.Errorf("%s: %v is read as %v, %v", what, x, got, ok)
	}
}

// TestRightKnown (P8.1): those that are right, and those that are not by one thing.
func TestRightKnown(t *testing.T) {
	for _, w := range rightWrites() {
		if !Right(w) {
			t.Errorf("%v is not right", w)
		}
	}
	for _, w := range wrongWrites() {
		if Right(w) {
			t.Errorf("%v is right", w)
		}
	}
}

// TestRightLengths (P8.1): each three lengths around the edges, Gone and not.
func TestRightLengths(t *testing.T) {
	for _, b := range []int{0, 1, 2, 15, 16, 17, 18, 32, 256, 257, 272, 1 << 16} {
		for _, k := range []int{0, 1, 2, 15, 16, 17, 18, 32, 256, 257, 272, 1 << 16} {
			for _, v := range []int{0, 1, 16, 17, 31, 32, 33, 34, 256, 257, 288, 1 << 16} {
				for _, gone := range []bool{false, true} {
					w := Write{long(b), long(k), long(v), gone}
					want := b >= 1 && b <= 16 && k >= 1 && k <= 16 && v <= 32 && !(gone && v > 0)
					if got := Right(w); got != want {
						t.Errorf("lengths %d, %d, %d, gone %v: %v", b, k, v, gone, got)
					}
				}
			}
		}
	}
}

// TestWholeMany (P8.1): 1 to MaxWrites writes.
func TestWholeMany(t *testing.T) {
	for _, s := range rightStamps() {
		for many := range 40 {
			x := Txn{s, numbered(many)}
			if many >= 1 && many <= api.MaxWrites {
				wantWhole(t, "as many as may be", x)
			} else {
				wantNotWhole(t, "none, or too many", x)
			}
		}
		wantNotWhole(t, "an empty list", Txn{s, []Write{}})
		wantNotWhole(t, "as many as a byte goes round at", Txn{s, numbered(257)})
		wantNotWhole(t, "as many as no byte has", Txn{s, numbered(3000)})
	}
}

// TestWholeRight (P8.1): ordinary ones, one by one and together.
func TestWholeRight(t *testing.T) {
	for _, x := range wholes() {
		wantWhole(t, "of right writes", x)
	}
}

// TestWholeWrongStamp (P8.1, P8.3): with right writes, and with none.
func TestWholeWrongStamp(t *testing.T) {
	for _, s := range wrongStamps() {
		for many := range api.MaxWrites + 1 {
			wantNotWhole(t, "a wrong stamp", Txn{s, numbered(many)})
		}
	}
}

// TestWholeWrongWrite (P8.1, P8.3): one that is not right, at each place among right ones.
func TestWholeWrongWrite(t *testing.T) {
	for _, wrong := range wrongWrites() {
		for many := 1; many <= api.MaxWrites; many++ {
			for place := range many {
				x := Txn{someStamp(), numbered(many)}
				x.Writes[place] = wrong
				wantNotWhole(t, "a wrong write", x)
			}
		}
	}
}

// TestWholeTwice (P8.1, P8.3): two of one Bucket and Key, at each two places, whatever they write; with another Bucket or Key they are two.
func TestWholeTwice(t *testing.T) {
	for many := 2; many <= api.MaxWrites; many++ {
		for first := range many {
			for second := range many {
				if first == second {
					continue
				}
				for _, how := range []Write{{}, {Value: "another"}, {Gone: true}} {
					x := Txn{someStamp(), numbered(many)}
					one := x.Writes[first]
					x.Writes[second] = Write{one.Bucket, one.Key, how.Value, how.Gone}
					wantNotWhole(t, "one Bucket and Key twice", x)
					x.Writes[second].Bucket = "new"
					wantWhole(t, "one Key in two Buckets", x)
					x.Writes[second].Bucket, x.Writes[second].Key = one.Bucket, "new"
					wantWhole(t, "two Keys in one Bucket", x)
				}
			}
		}
	}
}

// TestWholeAlike (P8.1): pairs that are not the same, though their bytes are together, or are turned round.
func TestWholeAlike(t *testing.T) {
	wantWhole(t, "alike", Txn{someStamp(), []Write{
		{Bucket: "ab", Key: "c", Value: "x"}, {Bucket: "a", Key: "bc", Value: "x"},
		{Bucket: "c", Key: "ab", Value: "x"}, {Bucket: "bc", Key: "a", Value: "x"},
		{Bucket: "a\x00", Key: "b", Value: "x"}, {Bucket: "a", Key: "\x00b", Value: "x"},
		{Bucket: "\x01a", Key: "b"}, {Bucket: "A", Key: "bc", Gone: true},
	}})
	wantNotWhole(t, "the same", Txn{someStamp(), []Write{{Bucket: "ab", Key: "c"}, {Bucket: "a", Key: "bc"}, {Bucket: "ab", Key: "c"}}})
}

// TestSize (P8.1): all bytes of one that is not Gone, right or not; 0 of one that is, whatever it has.
func TestSize(t *testing.T) {
	known := []struct {
		w    Write
		want int
	}{
		{Write{Bucket: "b", Key: "k", Gone: true}, 0}, // the chapter's example
		{Write{}, 0},
		{Write{Gone: true}, 0},
		{Write{Bucket: "b", Key: "k"}, 2},
		{Write{Bucket: "b", Key: "k", Value: "vv"}, 4},
		{Write{Bucket: "b", Key: "k", Value: "vv", Gone: true}, 0},
		{Write{Bucket: "bbb"}, 3},
		{Write{Key: "kkkk"}, 4},
		{Write{Value: "vvvvv"}, 5},
		{Write{Bucket: "日", Key: "ö", Value: "\x00"}, 6},
		{Write{Bucket: long(16), Key: long(16), Value: long(32)}, 64},
		{Write{Bucket: long(100), Key: long(200), Value: long(3000)}, 3300},
		{Write{Bucket: long(100), Key: long(200), Value: long(3000), Gone: true}, 0},
	}
	for _, k := range known {
		if got := Size(k.w); got != k.want {
			t.Errorf("Size(%v) = %d, want %d", k.w, got, k.want)
		}
	}
}

// TestSameEach (P8.1): each whole one is the same as its copy, and as no other one.
func TestSameEach(t *testing.T) {
	l := wholes()
	for i, a := range l {
		for k, b := range l {
			want := bytesOf(a) == bytesOf(b)
			if i == k && !want {
				t.Fatalf("the test is wrong at %d", i)
			}
			if got := Same(a, copied(b)); got != want {
				t.Errorf("Same(%v, %v) = %v", a, b, got)
			}
		}
	}
}

// TestSameParts (P8.1): whatever one thing is another makes it another transaction, be it whole or not.
func TestSameParts(t *testing.T) {
	base := Txn{someStamp(), []Write{{"b", "k", "v", false}, {"c", "l", "", true}, {"d", "m", "w", true}}}
	parts := []func(x *Txn){
		func(x *Txn) { x.Stamp.DC = 3 },
		func(x *Txn) { x.Stamp.DC = -2 },
		func(x *Txn) { x.Stamp.Vec[0]++ },
		func(x *Txn) { x.Stamp.Vec[3] += 1 << 63 },
		func(x *Txn) { x.Writes[0].Bucket = "B" },
		func(x *Txn) { x.Writes[1].Key = "" },
		func(x *Txn) { x.Writes[0].Value = "v\x00" },
		func(x *Txn) { x.Writes[2].Value = "" }, // though it is Gone
		func(x *Txn) { x.Writes[1].Gone = false },
		func(x *Txn) { x.Writes = x.Writes[:2] },
		func(x *Txn) { x.Writes = x.Writes[1:] },
		func(x *Txn) { x.Writes = nil },
		func(x *Txn) { x.Writes = append(x.Writes, Write{}) },
		func(x *Txn) { x.Writes = append(x.Writes, x.Writes[2]) },
		func(x *Txn) { slices.Reverse(x.Writes) },
		func(x *Txn) { x.Writes[0], x.Writes[1] = x.Writes[1], x.Writes[0] },
		func(x *Txn) { x.Writes[1], x.Writes[2] = x.Writes[2], x.Writes[1] },
		func(x *Txn) { x.Writes[0].Bucket, x.Writes[0].Key = x.Writes[0].Key, x.Writes[0].Bucket },
	}
	if !Same(base, copied(base)) {
		t.Error("a copy is not the same")
	}
	for i, change := range parts {
		other := copied(base)
		change(&other)
		if Same(base, other) || Same(other, base) {
			t.Errorf("%d: %v is the same as %v", i, other, base)
		}
		if !Same(other, copied(other)) {
			t.Errorf("%d: %v is not the same as its copy", i, other)
		}
	}
}

// TestSameNothing (P8.1, P5): a list of nothing is one, nil or not.
func TestSameNothing(t *testing.T) {
	for _, s := range append(rightStamps(), wrongStamps()...) {
		a, b, c := Txn{Stamp: s}, Txn{s, []Write{}}, Txn{s, make([]Write, 0, 8)}
		if !Same(a, b) || !Same(b, a) || !Same(b, c) || !Same(a, a) || Same(a, Txn{s, []Write{{}}}) {
			t.Errorf("lists of nothing at %v", s)
		}
	}
}

// TestOrderOfWrites (P8.1, P8.3): two that part only in the order of their writes are not the same, nor are their bytes; both are read as they were put.
func TestOrderOfWrites(t *testing.T) {
	for many := 2; many <= api.MaxWrites; many++ {
		for first := range many - 1 {
			x := Txn{someStamp(), numbered(many)}
			y := copied(x)
			y.Writes[first], y.Writes[many-1] = y.Writes[many-1], y.Writes[first]
			wantWhole(t, "in order", x)
			wantWhole(t, "in another order", y)
			a, _ := Bytes(x)
			b, _ := Bytes(y)
			if Same(x, y) || a == b || len(a) != len(b) {
				t.Errorf("%v and %v are the same", x, y)
			}
		}
	}
}

// names: some for buckets and keys, right and not; at 128 bytes the length ahead grows by a byte.
func names() []string {
	return []string{"", "a", "b", "ab", "bc", "abc", "\x00", "\x01a", "\xff", "größe", long(16), long(17), long(127), long(128), long(300)}
}

// sumOf is P8.2's sum by the library.
func sumOf(bucket, key string) uint32 {
	put := binary.AppendUvarint(nil, uint64(len(bucket)))
	put = append(put, bucket...)
	put = binary.AppendUvarint(put, uint64(len(key)))
	return crc32.ChecksumIEEE(append(put, key...))
}

// TestShard (P8.2): the library's sum of both texts with their lengths, modulo shards, and 1.
func TestShard(t *testing.T) {
	high := 0
	for _, bucket := range names() {
		for _, key := range names() {
			sum := sumOf(bucket, key)
			if sum >= 1<<31 {
				high++
			}
			for _, shards := range []int{1, 2, 3, 4, 5, 7, 8, 1000, 1<<31 - 1, 1 << 31, 1<<32 - 1} {
				if got, want := Shard(bucket, key, shards), int(int64(sum)%int64(shards))+1; got != want {
					t.Errorf("Shard(%q, %q, %d) = %d, want %d", bucket, key, shards, got, want)
				}
			}
			for _, shards := range []int{1 << 32, 1<<32 + 1, 1 << 40, math.MaxInt - 1, math.MaxInt} {
				if got := Shard(bucket, key, shards); got != int(sum)+1 {
					t.Errorf("Shard(%q, %q, %d) = %d, want %d", bucket, key, shards, got, int(sum)+1)
				}
			}
		}
	}
	if high < 20 {
		t.Errorf("only %d sums have their highest bit", high)
	}
}

// TestShardKnown (P8.2): some that are written out.
func TestShardKnown(t *testing.T) {
	sum := int(crc32.ChecksumIEEE([]byte("\x01b\x01k")))
	for shards, want := range []int{1, 1, sum%2 + 1, sum%3 + 1, sum%4 + 1} {
		if got := Shard("b", "k", shards); got != want {
			t.Errorf("Shard(b, k, %d) = %d, want %d", shards, got, want)
		}
	}
	if got, want := Shard("", "", 1<<32), int(crc32.ChecksumIEEE([]byte("\x00\x00")))+1; got != want {
		t.Errorf("Shard of nothing = %d, want %d", got, want)
	}
}

// TestShardBelowOne (P8.2, P6): 1, if shards is below 1; and 1 of 1.
func TestShardBelowOne(t *testing.T) {
	for _, shards := range []int{1, 0, -1, -2, -3, -4, -1000, math.MinInt32, math.MinInt + 1, math.MinInt} {
		for _, bucket := range names() {
			for _, key := range names() {
				if got := Shard(bucket, key, shards); got != 1 {
					t.Errorf("Shard(%q, %q, %d) = %d", bucket, key, shards, got)
				}
			}
		}
	}
}

// TestShardAlike (P8.2): pairs whose bytes are the same together, or that are turned round, have sums of their own.
func TestShardAlike(t *testing.T) {
	pairs := [][2]string{{"abc", ""}, {"ab", "c"}, {"a", "bc"}, {"", "abc"}, {"bc", "a"}, {"c", "ab"}, {"a", "\x01bc"}, {"a\x02", "bc"}}
	at := map[int]int{}
	for i, p := range pairs {
		at[Shard(p[0], p[1], math.MaxInt)] = i
	}
	if len(at) != len(pairs) {
		t.Errorf("%d pairs have %d sums", len(pairs), len(at))
	}
	apart := false
	for shards := 2; shards <= api.MaxShards; shards++ {
		apart = apart || Shard("ab", "c", shards) != Shard("a", "bc", shards)
	}
	if !apart {
		t.Error("they share a shard, however many there are")
	}
}

// spread: whole and not, with writes in several shards.
func spread() []Txn {
	twice := append(numbered(5), numbered(5)...)
	return []Txn{
		{someStamp(), numbered(8)},
		{someStamp(), rightWrites()[:8]},
		{someStamp(), rightWrites()[4:]},
		{someStamp(), numbered(1)},
		{Txn{}.Stamp, numbered(6)},
		{someStamp(), numbered(100)},
		{someStamp(), twice},
		{someStamp(), wrongWrites()},
		{someStamp(), nil},
		{},
	}
}

// TestOf (P8.2): those whose Shard is that, in order, of transactions that are whole and not.
func TestOf(t *testing.T) {
	some := 0
	for _, x := range spread() {
		for _, shards := range []int{1, 2, 3, 4, 5, 17, 1 << 32, math.MaxInt, 0, -1, -4, math.MinInt} {
			for shard := -2; shard <= 20; shard++ {
				var want []Write
				for _, w := range x.Writes {
					in := 1
					if shards >= 1 {
						in = int(int64(sumOf(w.Bucket, w.Key))%int64(shards)) + 1
					}
					if in == shard {
						want = append(want, w)
					}
				}
				if got := Of(x, shard, shards); !slices.Equal(got, want) {
					t.Errorf("Of(%v, %d, %d) = %v, want %v", x, shard, shards, got, want)
				}
				if len(want) > 0 && len(want) < len(x.Writes) {
					some++
				}
			}
		}
	}
	if some < 50 {
		t.Errorf("only %d were of some writes, but not of all", some)
	}
}

// TestOfAll (P8.2): all are of the first shard, where there is one, or none.
func TestOfAll(t *testing.T) {
	for _, x := range spread() {
		for _, shards := range []int{1, 0, -1, math.MinInt} {
			if got := Of(x, 1, shards); !slices.Equal(got, x.Writes) {
				t.Errorf("Of(%v, 1, %d) = %v", x, shards, got)
			}
			for _, shard := range []int{0, -1, 2, shards - 1, math.MinInt, math.MaxInt} {
				if got := Of(x, shard, shards); len(got) != 0 {
					t.Errorf("Of(%v, %d, %d) = %v", x, shard, shards, got)
				}
			}
		}
	}
}

// TestOfNoShard (P8.2, P6): nothing is of a shard that is none.
func TestOfNoShard(t *testing.T) {
	for _, x := range spread() {
		for shards := 1; shards <= 5; shards++ {
			for _, shard := range []int{0, -1, -shards, shards + 1, 2*shards + 1, 256 + 1, 1<<32 + 1, math.MaxInt, math.MinInt, math.MinInt + 1} {
				if got := Of(x, shard, shards); len(got) != 0 {
					t.Errorf("Of(%v, %d, %d) = %v", x, shard, shards, got)
				}
			}
		}
	}
}

// TestOfOwnMemory (P3): the list is new: whoever writes into it, or behind it, changes neither the transaction nor another answer.
func TestOfOwnMemory(t *testing.T) {
	all := numbered(9)
	x := Txn{someStamp(), all[:8]}
	for shards := 1; shards <= 4; shards++ {
		for shard := 1; shard <= shards; shard++ {
			got, again := Of(x, shard, shards), Of(x, shard, shards)
			want := slices.Clone(again)
			for i := range got {
				got[i] = Write{Bucket: "changed"}
			}
			_ = append(got, Write{Bucket: "behind"})
			if room := got[:cap(got)]; len(room) > 0 {
				room[len(room)-1] = Write{Bucket: "spare"}
			}
			if !slices.Equal(all, numbered(9)) {
				t.Fatalf("shard %d of %d: the transaction has changed", shard, shards)
			}
			if !slices.Equal(again, want) {
				t.Fatalf("shard %d of %d: another answer has changed", shard, shards)
			}
		}
	}
}

// TestNothingIsWrittenInto (P3): what is handed in, and what stands behind it in its array, stays.
func TestNothingIsWrittenInto(t *testing.T) {
	all := numbered(9)
	for many := range 9 {
		x := Txn{someStamp(), all[:many]}
		Whole(x)
		Bytes(x)
		Same(x, Txn{someStamp(), all[:many/2]})
		for shard := range 5 {
			Of(x, shard, 4)
		}
		if !slices.Equal(all, numbered(9)) {
			t.Fatalf("of %d: the writes have changed", many)
		}
	}
}

// TestBytesKnown (P8.3): some that are written out.
func TestBytesKnown(t *testing.T) {
	known := []struct {
		x    Txn
		want string
	}{
		{Txn{someStamp(), []Write{{Bucket: "b", Key: "k", Value: "vv"}}}, "\x02\x00\x02\x00\x00\x01\x01b\x01k\x00\x02vv"},
		{Txn{someStamp(), []Write{{Bucket: "b", Key: "k"}}}, "\x02\x00\x02\x00\x00\x01\x01b\x01k\x00\x00"},
		{Txn{someStamp(), []Write{{Bucket: "b", Key: "k", Gone: true}}}, "\x02\x00\x02\x00\x00\x01\x01b\x01k\x01"},
		{Txn{stamp.Stamp{Vec: vec.Vec{300, 0, 0, 1}, DC: 4}, []Write{{Bucket: "z", Key: "yy", Gone: true}, {Bucket: "a", Key: "b", Value: "\x00\xff"}, {Bucket: "a", Key: "a"}}},
			"\x04\xac\x02\x00\x00\x01\x03\x01z\x02yy\x01\x01a\x01b\x00\x02\x00\xff\x01a\x01a\x00\x00"},
		{Txn{someStamp(), []Write{{Bucket: long(16), Key: long(16), Value: long(32)}}}, "\x02\x00\x02\x00\x00\x01\x10" + long(16) + "\x10" + long(16) + "\x00\x20" + long(32)},
	}
	for _, k := range known {
		if got, ok := Bytes(k.x); got != k.want || !ok {
			t.Errorf("Bytes(%v) = %x, %v; want %x", k.x, got, ok, k.want)
		}
		if got, ok := Read(k.want); !ok || !Same(got, k.x) {
			t.Errorf("Read(%x) = %v, %v; want %v", k.want, got, ok, k.x)
		}
	}
}

// TestReadCut (P8.3): bytes that are cut at each place are none.
func TestReadCut(t *testing.T) {
	for _, x := range wholes() {
		whole, _ := Bytes(x)
		for has := range len(whole) {
			wantNone(t, "cut", whole[:has])
		}
		wantNone(t, "without its first byte", whole[1:])
	}
}

// TestReadBehind (P8.3): so are such with something behind them.
func TestReadBehind(t *testing.T) {
	for _, x := range wholes() {
		whole, _ := Bytes(x)
		for _, behind := range []string{"x", "\x00", "\x01", "\x80", "\x01b\x01q\x01", whole, strings.Repeat("\xff", 100)} {
			wantNone(t, "something behind", whole+behind)
		}
	}
}

// TestReadMany (P8.3): with each other byte of how many writes than theirs they are none, and so is such a byte with so many writes behind it, where these are none or too many.
func TestReadMany(t *testing.T) {
	for many := range 40 {
		x := Txn{someStamp(), numbered(many)}
		for told := range 256 {
			s := spelt(x, byte(told))
			if told != many || many < 1 || many > api.MaxWrites {
				wantNone(t, "how many", s)
			} else if got, ok := Read(s); !ok || !Same(got, x) {
				t.Errorf("of %d writes: %v, %v", many, got, ok)
			}
		}
	}
	for _, many := range []int{255, 256, 257, 264} {
		wantNone(t, "too many", bytesOf(Txn{someStamp(), numbered(many)}))
	}
}

// TestReadMark (P8.3): the byte of what is Gone is 0 or 1, with a value behind it and with none, at each write.
func TestReadMark(t *testing.T) {
	head, one, last := "\x02\x00\x02\x00\x00", "\x01b\x01k", "\x01c\x01l\x01"
	for mark := range 256 {
		m := string([]byte{byte(mark)})
		for _, value := range []string{"", "\x00", "\x02vv"} {
			right := mark == 0 && value != "" || mark == 1 && value == ""
			for _, s := range []string{head + "\x01" + one + m + value, head + "\x02" + one + m + value + last, head + "\x02" + last + one + m + value} {
				got, ok := Read(s)
				if ok != right {
					t.Errorf("mark %d, %q behind it: Read(%x) = %v, %v", mark, value, s, got, ok)
				}
				if put, _ := Bytes(got); right && put != s {
					t.Errorf("Read(%x) = %v, whose bytes are %x", s, got, put)
				}
			}
		}
	}
}

// TestReadTwice (P8.3): two writes of one Bucket and Key in the bytes, at each two places.
func TestReadTwice(t *testing.T) {
	for many := 2; many <= api.MaxWrites; many++ {
		for first := range many {
			for second := range many {
				if first == second {
					continue
				}
				x := Txn{someStamp(), numbered(many)}
				x.Writes[second].Bucket, x.Writes[second].Key = x.Writes[first].Bucket, x.Writes[first].Key
				wantNone(t, "twice", bytesOf(x))
				x.Writes[second].Key = "new"
				if got, ok := Read(bytesOf(x)); !ok || !Same(got, x) {
					t.Errorf("two Keys of one Bucket: %v, %v; want %v", got, ok, x)
				}
			}
		}
	}
}

// TestReadWrongWrite (P8.3): the bytes of a write that is not right, at each place among right ones. (One that is Gone with a Value has no bytes of its own: with its mark it is another one.)
func TestReadWrongWrite(t *testing.T) {
	tried := 0
	for _, wrong := range wrongWrites() {
		if wrong.Gone && wrong.Value != "" {
			continue
		}
		for many := 1; many <= api.MaxWrites; many++ {
			for place := range many {
				x := Txn{someStamp(), numbered(many)}
				x.Writes[place] = wrong
				wantNone(t, "a wrong write", bytesOf(x))
				tried++
			}
		}
	}
	if tried < 300 {
		t.Errorf("only %d were tried", tried)
	}
}

// TestReadWrongStamp (P8.3): the bytes of a stamp that is not right ahead of right writes.
func TestReadWrongStamp(t *testing.T) {
	for _, s := range wrongStamps() {
		if s.DC == 257 {
			continue // in a byte it would be another one, which is right
		}
		for many := 1; many <= api.MaxWrites; many++ {
			wantNone(t, "a wrong stamp", bytesOf(Txn{s, numbered(many)}))
		}
	}
}

// TestReadNoVary (P8.3): a length in more bytes than it needs, or that no text has, ahead of Bucket, Key and Value.
func TestReadNoVary(t *testing.T) {
	head := "\x02\x00\x02\x00\x00\x01"
	if _, ok := Read(head + "\x01b" + "\x01k" + "\x00" + "\x01v"); !ok {
		t.Fatal("the right one is refused")
	}
	for _, length := range []string{"\x81\x00", "\x81\x80\x00", "\x80", "\xff\xff\xff\xff\xff\xff\xff\xff\xff\x01", "\x81\x80\x80\x80\x80\x80\x80\x80\x80\x02", "\x80\x80\x80\x80\x10"} {
		wantNone(t, "no length of Bucket", head+length+"b"+"\x01k"+"\x00"+"\x01v")
		wantNone(t, "no length of Key", head+"\x01b"+length+"k"+"\x00"+"\x01v")
		wantNone(t, "no length of Value", head+"\x01b"+"\x01k"+"\x00"+length+"v")
	}
	wantNone(t, "no number of the stamp", "\x02\x80\x00\x02\x00\x00\x01\x01b\x01k\x01")
}

// TestReadTurned (P8.3): with one byte another one it is refused, or it is the bytes of what is read.
func TestReadTurned(t *testing.T) {
	read, refused := 0, 0
	for i, x := range wholes() {
		if i%13 != 0 {
			continue
		}
		whole, _ := Bytes(x)
		for at := range len(whole) {
			for b := range 256 {
				turned := []byte(whole)
				turned[at] = byte(b)
				got, ok := Read(string(turned))
				if !ok {
					refused++
					wantNone(t, "turned", string(turned))
					continue
				}
				read++
				if put, ok := Bytes(got); !ok || put != string(turned) {
					t.Errorf("Read(%x) = %v, whose bytes are %x, %v", turned, got, put, ok)
				}
			}
		}
	}
	if read < 1000 || refused < 1000 {
		t.Errorf("%d were read, %d refused", read, refused)
	}
}

// TestReadShort (P8.3): each text of some bytes behind a right stamp is read just if it is what is put of what the library reads.
func TestReadShort(t *testing.T) {
	some := []byte{0, 1, 2, 'a', 128}
	read := 0
	for size := range 8 {
		many := 1
		for range size {
			many *= len(some)
		}
		for i := range many {
			text := []byte("\x02\x00\x02\x00\x00")
			for k := i; len(text) < 5+size; k /= len(some) {
				text = append(text, some[k%len(some)])
			}
			want, has := slowRead(text)
			got, ok := Read(string(text))
			if ok != has || ok && (got.Stamp != want.Stamp || !slices.Equal(got.Writes, want.Writes)) {
				t.Fatalf("Read(%x) = %v, %v; want %v, %v", text, got, ok, want, has)
			}
			if has {
				read++
			}
		}
	}
	if read < 50 {
		t.Errorf("only %d were read", read)
	}
}

// slowRead is P8.3's word apart from the program's way, of what begins with someStamp: the lengths as the library reads them, and put again to the same bytes.
func slowRead(text []byte) (Txn, bool) {
	x, rest := Txn{Stamp: someStamp()}, text[5:]
	ok := true
	next := func() string {
		n, size := binary.Uvarint(rest)
		if size <= 0 || n > uint64(len(rest)-size) {
			ok, rest = false, nil
			return ""
		}
		s := string(rest[size : size+int(n)])
		rest = rest[size+int(n):]
		return s
	}
	if len(rest) == 0 || rest[0] < 1 || rest[0] > 8 {
		return Txn{}, false
	}
	many := int(rest[0])
	rest = rest[1:]
	seen := map[[2]string]int{}
	for range many {
		w := Write{Bucket: next(), Key: next()}
		if len(rest) == 0 || rest[0] > 1 {
			return Txn{}, false
		}
		w.Gone = rest[0] == 1
		rest = rest[1:]
		if !w.Gone {
			w.Value = next()
		}
		seen[[2]string{w.Bucket, w.Key}]++
		ok = ok && w.Bucket != "" && w.Key != "" && len(w.Bucket) <= 16 && len(w.Key) <= 16 && len(w.Value) <= 32
		x.Writes = append(x.Writes, w)
	}
	return x, ok && len(seen) == many && bytesOf(x) == string(text)
}

// TestReadAny (P1, P8.3): bytes of no sense are refused, or are those of what is read.
func TestReadAny(t *testing.T) {
	state := uint32(1)
	for many := range 3000 {
		text := make([]byte, many%200)
		for i := range text {
			state = state*1664525 + 1013904223
			text[i] = byte(state >> 24)
			if state>>20%4 != 0 {
				text[i] %= 4
			}
		}
		for _, s := range []string{string(text), "\x02\x00\x02\x00\x00" + string(text), "\x02\x00\x02\x00\x00\x08" + string(text)} {
			got, ok := Read(s)
			if put, whole := Bytes(got); ok != whole || ok && put != s {
				t.Errorf("Read(%x) = %v, %v", s, got, ok)
			}
			if !ok {
				wantNone(t, "no sense", s)
			}
		}
	}
}

// TestReadOwnMemory (P3): each answer's list is its own, its spare room too.
func TestReadOwnMemory(t *testing.T) {
	x := Txn{someStamp(), numbered(7)}
	s, _ := Bytes(x)
	a, _ := Read(s)
	b, _ := Read(s)
	for i := range a.Writes {
		a.Writes[i].Key = "changed"
	}
	_ = append(a.Writes, Write{Bucket: "behind"})
	if c, ok := Read(s); !Same(b, x) || !ok || !Same(c, x) {
		t.Errorf("%v and %v; want %v", b, c, x)
	}
}

// TestEachOfOneShard (P8.4): each write of a transaction is of one shard alone, and of no other one; together the shards have all.
func TestEachOfOneShard(t *testing.T) {
	for _, x := range append(wholes(), spread()...) {
		for shards := -1; shards <= 6; shards++ {
			many := map[Write]int{}
			for _, w := range x.Writes {
				many[w]++
			}
			all, at := 0, map[[2]string]int{}
			for shard := -3; shard <= 9; shard++ {
				for _, w := range Of(x, shard, shards) {
					all++
					many[w]--
					name := [2]string{w.Bucket, w.Key}
					if was, ok := at[name]; ok && was != shard {
						t.Errorf("%v is of %d and of %d, of %d", w, was, shard, shards)
					}
					at[name] = shard
					if shard < 1 || shard > max(shards, 1) || Shard(w.Bucket, w.Key, shards) != shard {
						t.Errorf("%v is of shard %d of %d", w, shard, shards)
					}
				}
			}
			for w, rest := range many {
				if rest != 0 {
					t.Errorf("%v is told %d times too few, of %d shards", w, rest, shards)
				}
			}
			if all != len(x.Writes) {
				t.Errorf("%d of %d writes are told, of %d shards", all, len(x.Writes), shards)
			}
		}
	}
}

// TestEachShardHasSome (P8.2, P8.4): keys are spread over all shards.
func TestEachShardHasSome(t *testing.T) {
	x := Txn{Writes: numbered(200)}
	for shards := 1; shards <= api.MaxShards; shards++ {
		for shard := 1; shard <= shards; shard++ {
			if got := len(Of(x, shard, shards)); got < 200/shards/2 {
				t.Errorf("shard %d of %d has %d of 200", shard, shards, got)
			}
		}
	}
}

// TestPutIsRead (P8.4): what was put is read, and has these bytes again; two that are not the same have not the same bytes.
func TestPutIsRead(t *testing.T) {
	from := map[string]Txn{}
	for _, x := range wholes() {
		s, ok := Bytes(x)
		got, has := Read(s)
		again, _ := Bytes(got)
		if !ok || !has || !Same(got, x) || again != s {
			t.Errorf("%v is put as %x, %v, and read as %v, %v", x, s, ok, got, has)
		}
		if was, ok := from[s]; ok && !Same(was, x) {
			t.Errorf("%v and %v have the bytes %x", was, x, s)
		}
		from[s] = x
	}
	if len(from) < 100 {
		t.Errorf("only %d were put", len(from))
	}
}

// TestFitsARecord (P8.3, Limits): the longest one is within a record.
func TestFitsARecord(t *testing.T) {
	x := Txn{Stamp: rightStamps()[3]}
	for i := range api.MaxWrites {
		x.Writes = append(x.Writes, Write{Bucket: long(api.MaxKey), Key: strconv.Itoa(i) + long(api.MaxKey-1), Value: long(api.MaxValue)})
	}
	wantWhole(t, "the longest", x)
	if s, _ := Bytes(x); len(s) > api.MaxRecord {
		t.Errorf("it has %d bytes", len(s))
	}
}
