package wal

import (
	"encoding/binary"
	"encoding/hex"
	"hash/crc32"
	"math"
	"math/rand"
	"slices"
	"strings"
	"testing"
	"unsafe"

	"tenement/api"
	"tenement/disk"
)

// fresh is a disk with room for so many bytes, and a log on it where nothing was done yet.
func fresh(t *testing.T, room int) (*disk.Disk, *Log) {
	t.Helper()
	d, e := disk.New(room)
	if e != api.OK {
		t.Fatalf("disk.New(%d) = %d", room, e)
	}
	l := opened(t, d)
	wantStands(t, l, d, nil, 0)
	return d, l
}

// opened is the log on d.
func opened(t *testing.T, d *disk.Disk) *Log {
	t.Helper()
	l := Open(d)
	if l == nil {
		t.Fatal("Open = nil")
	}
	return l
}

// wantErr asks what a call told.
func wantErr(t *testing.T, call string, got, want api.Errno) {
	t.Helper()
	if got != want {
		t.Errorf("%s = %d; want %d", call, got, want)
	}
}

// wantStands asks a log's records, and that their frames, and nothing else, are on the disk, the first so many of them synced.
func wantStands(t *testing.T, l *Log, d *disk.Disk, records []string, synced int) {
	t.Helper()
	if got := l.Records(); !slices.Equal(got, records) {
		t.Errorf("Records = %q; want %q", got, records)
	}
	if d.Bytes() != frames(records...) || d.Synced() != len(frames(records[:synced]...)) {
		t.Errorf("the disk has %q, %d of it synced; want %q, %d", d.Bytes(), d.Synced(), frames(records...), len(frames(records[:synced]...)))
	}
}

// wantScan asks what Scan tells of s.
func wantScan(t *testing.T, s string, records []string, size int) {
	t.Helper()
	got, n := Scan(s)
	if !slices.Equal(got, records) || n != size {
		t.Errorf("Scan(%.60q, of %d) = %.60q, %d; want %.60q, %d", s, len(s), got, n, records, size)
	}
}

// appended has those records in the log, behind what is there.
func appended(t *testing.T, l *Log, records ...string) {
	t.Helper()
	for _, r := range records {
		if e := l.Append(r); e != api.OK {
			t.Fatalf("Append(%.20q, of %d) = %d", r, len(r), e)
		}
	}
}

// junk has those texts on the disk, behind what is there.
func junk(t *testing.T, d *disk.Disk, blocks ...string) {
	t.Helper()
	for _, s := range blocks {
		if e := d.Append(s); e != api.OK {
			t.Fatalf("Append of the disk = %d", e)
		}
	}
}

// sumOf is four bytes of the library's sum of a text.
func sumOf(text string) string {
	return string(binary.BigEndian.AppendUint32(nil, crc32.ChecksumIEEE([]byte(text))))
}

// frame is a record's frame, by the library's means, whether the record may have one or not.
func frame(record string) string {
	text := string(binary.AppendUvarint(nil, uint64(len(record)))) + record
	return text + sumOf(text)
}

// frames is the frames of records, one behind the other.
func frames(records ...string) (out string) {
	for _, r := range records {
		out += frame(r)
	}
	return out
}

// scanned is what Scan tells, by the words of the chapter: each record that may be is held against what s has next.
func scanned(s string) (records []string, size int) {
	for {
		found := ""
		for many := 1; many <= 2048 && found == ""; many++ {
			for head := 1; head <= 2; head++ {
				at := size + head
				if at+many <= len(s) && strings.HasPrefix(s[size:], frame(s[at:at+many])) {
					found = s[at : at+many]
				}
			}
		}
		if found == "" {
			return records, size
		}
		records, size = append(records, found), size+len(frame(found))
	}
}

// some is a text of many bytes, another one for each from.
func some(many, from int) string {
	out := make([]byte, many)
	for i := range out {
		out[i] = byte(i*7 + i>>8 + from)
	}
	return string(out)
}

// bytesOf is the bytes of hexadecimal digits.
func bytesOf(t *testing.T, digits string) string {
	t.Helper()
	b, err := hex.DecodeString(digits)
	if err != nil {
		t.Fatal(err)
	}
	return string(b)
}

// longs are sizes of records that have no frame; some of them would be right in fewer bits.
func longs() []int {
	return []int{0, 2049, 2050, 2176, 4096, 4097, 1 << 14, 1<<16 + 1, 1<<16 + 2048, 1 << 20}
}

// TestFrameKnown (P12.1): frames written out.
func TestFrameKnown(t *testing.T) {
	known := []struct{ record, digits string }{
		{"a", "01" + "61" + "62777270"},
		{"one", "03" + "6f6e65" + "b6dc2f11"},
		{"two two", "07" + "74776f2074776f" + "343c03e7"},
		{"\x00", "01" + "00" + "58c223be"},
		{"\xff\xfe", "02" + "fffe" + "35e42f15"},
		{strings.Repeat("x", 127), "7f" + strings.Repeat("78", 127) + "371f41ae"},
		{strings.Repeat("x", 128), "8001" + strings.Repeat("78", 128) + "bbbc9d1a"},
		{strings.Repeat("x", 2048), "8010" + strings.Repeat("78", 2048) + "5f5e0866"},
	}
	for _, k := range known {
		want := bytesOf(t, k.digits)
		if got, ok := Frame(k.record); !ok || got != want {
			t.Errorf("Frame(%.20q) = %x, %v; want %s", k.record, got, ok, k.digits)
		}
		wantScan(t, want, []string{k.record}, len(want))
		wantScan(t, want+want, []string{k.record, k.record}, 2*len(want))
	}
}

// TestFrameSizes (P12.1): a record of each size has its frame, from one byte to MaxRecord, and Scan tells it.
func TestFrameSizes(t *testing.T) {
	all, records := "", []string(nil)
	for many := 1; many <= api.MaxRecord; many++ {
		record := some(many, many)
		got, ok := Frame(record)
		if !ok || got != frame(record) {
			t.Fatalf("Frame of %d bytes = %.20x.., %v", many, got, ok)
		}
		wantScan(t, got, []string{record}, len(got))
		if many%50 == 0 || many > 2040 {
			all, records = all+got, append(records, record)
		}
	}
	wantScan(t, all, records, len(all))
}

// TestFrameNone (P12.1, P2): a record of nothing, or above MaxRecord bytes, has none.
func TestFrameNone(t *testing.T) {
	for _, many := range longs() {
		if got, ok := Frame(some(many, 0)); ok || got != "" {
			t.Errorf("Frame of %d bytes = %.20q, %v; want nothing, false", many, got, ok)
		}
	}
}

// TestScanNone (P12.1): a text that begins with no whole frame; the chapter's example: of nothing none, 0.
func TestScanNone(t *testing.T) {
	one := frame("one")
	texts := []string{"", "\x00", "\x01", "\x80", "x", "one", "junk that is no frame", "\x03one", "\x03one\x00\x00\x00\x00",
		strings.Repeat("\x00", 5), strings.Repeat("\x00", 100), strings.Repeat("\xff", 100), strings.Repeat("\x80", 100),
		"\x00" + one, "x" + one, one[1:], one[:len(one)-1], one[:4], "\x03" + one, frame(some(2048, 1))[1:]}
	for _, s := range texts {
		wantScan(t, s, nil, 0)
	}
}

// TestScanCut (P12.1): frames cut off at each byte: those that are whole are told, and how many bytes they have.
func TestScanCut(t *testing.T) {
	records := []string{"one", "two two", "x", some(130, 3), some(2048, 5), "last"}
	all := frames(records...)
	ends := []int{0}
	for i := range records {
		ends = append(ends, len(frames(records[:i+1]...)))
	}
	whole := 0
	for size := range len(all) + 1 {
		if whole+1 < len(ends) && ends[whole+1] == size {
			whole++
		}
		wantScan(t, all[:size], records[:whole], ends[whole])
	}
	if whole != len(records) {
		t.Error("not all were tried")
	}
}

// TestScanSumOfZeros (P12.1): of a frame whose sum is four zeros, or has all bits, each byte must be there too.
func TestScanSumOfZeros(t *testing.T) {
	for _, k := range []struct{ text, sum string }{
		{"04" + "0921b6b8", "00000000"},
		{"08" + "7a65726f" + "cf981111", "00000000"},
		{"04" + "6bd4902a", "ffffffff"},
		{"08" + "6f6e6573" + "38fd27f9", "ffffffff"},
	} {
		f := bytesOf(t, k.text+k.sum)
		record := f[1 : len(f)-4]
		if got, ok := Frame(record); !ok || got != f {
			t.Errorf("Frame(%q) = %x, %v; want %x", record, got, ok, f)
		}
		for size := range len(f) {
			wantScan(t, f[:size], nil, 0)
			wantScan(t, frame("ahead")+f[:size], []string{"ahead"}, len(frame("ahead")))
		}
		wantScan(t, f, []string{record}, len(f))
		wantScan(t, f+f+"\x00", []string{record, record}, 2*len(f))
		d, _ := disk.New(100)
		junk(t, d, f, f[:len(f)-4])
		wantStands(t, opened(t, d), d, []string{record}, 1)
	}
}

// TestScanJunk (P12.1): what stands behind the last whole frame is not counted, and a frame behind it not told.
func TestScanJunk(t *testing.T) {
	ahead := []string{"one", some(300, 1)}
	size := len(frames(ahead...))
	for _, s := range []string{"\x00", "\x00\x00\x00\x00", "\x00\x00\x00\x00\x00", strings.Repeat("\x00", 12), "x", "\xff", "\x80", "\x03on", "\x03one", frame("two")[:7], "\x80\x80\x80"} {
		wantScan(t, frames(ahead...)+s, ahead, size)
		wantScan(t, frames(ahead...)+s+strings.Repeat("\x00", 3000), ahead, size)
		wantScan(t, s, nil, 0)
		wantScan(t, frames(ahead...)+s+frame("behind"), ahead, size)
	}
	for many := 1; many <= 40; many++ {
		wantScan(t, frames(ahead...)+strings.Repeat("\x00", many)+frame("behind"), ahead, size)
	}
}

// TestScanTurned (P12.1): with a byte another one, in its size, its record or its sum, a frame is none, and ends what is told.
func TestScanTurned(t *testing.T) {
	for _, record := range []string{"x", "one", "two two", some(128, 1)} {
		f := frame(record)
		for at := range len(f) {
			for by := 1; by < 256; by++ {
				turned := []byte(f)
				turned[at] ^= byte(by)
				wantScan(t, string(turned), nil, 0)
				wantScan(t, string(turned)+frame("behind"), nil, 0)
				wantScan(t, frame("ahead")+string(turned)+frame("behind"), []string{"ahead"}, len(frame("ahead")))
			}
		}
	}
}

// TestScanOtherSums (P12.1): four bytes that are made another way are not the sum, but by chance.
func TestScanOtherSums(t *testing.T) {
	low := func(n uint32) string { return string(binary.LittleEndian.AppendUint32(nil, n)) }
	for _, record := range []string{"x", "one", "two two", some(200, 1), some(2048, 2)} {
		f := frame(record)
		text, sum := f[:len(f)-4], f[len(f)-4:]
		others := []string{low(crc32.ChecksumIEEE([]byte(text))), sumOf(record), sumOf(text + sum), sumOf(text + "\x00"),
			low(^binary.BigEndian.Uint32([]byte(sum))), "\x00\x00\x00\x00", "\xff\xff\xff\xff", sum[1:] + sum[:1], sumOf("")}
		for _, other := range others {
			wantScan(t, text+other, nil, 0)
			wantScan(t, frame("ahead")+text+other+frame("behind"), []string{"ahead"}, len(frame("ahead")))
		}
		wantScan(t, sum+text, nil, 0)
	}
}

// TestScanSizes (P12.1): a record of nothing, or above MaxRecord bytes, has no frame, though its sum be right, wherever it stands.
func TestScanSizes(t *testing.T) {
	for _, many := range longs() {
		no := frame(some(many, 0))
		wantScan(t, no, nil, 0)
		wantScan(t, no+frame("one"), nil, 0)
		wantScan(t, frame("one")+no, []string{"one"}, 8)
		wantScan(t, frames("one", "two")+no+frame("three"), []string{"one", "two"}, 16)
		wantScan(t, frame("one")+no+no+frame("three"), []string{"one"}, 8)
	}
	wantScan(t, frames("one", some(2048, 0), "three"), []string{"one", some(2048, 0), "three"}, 8+2054+10)
}

// TestScanWide (P12.1): a size that is not written in as few bytes as it needs is none, though the sum be right of it; so is one that no text has.
func TestScanWide(t *testing.T) {
	heads := []string{"\x83\x00", "\x83\x80\x00", "\x83\x80\x80\x00", "\x83\x80\x80\x80\x80\x80\x80\x80\x80\x00", "\x83\x80\x80\x80\x80\x80\x80\x80\x80\x80\x00",
		"\x80\x00", "\x83\x80\x80\x80\x10", "\x83\x80\x80\x80\x80\x80\x80\x80\x80\x01", "\x83\x80\x80\x80\x80\x80\x80\x80\x80\x02",
		"\xff\xff\xff\xff\xff\xff\xff\xff\x7f", "\xff\xff\xff\xff\xff\xff\xff\xff\xff\x01", "\xfd\xff\xff\xff\xff\xff\xff\xff\xff\x01", "\x83", "\x04", "\x02", "\x00\x03", "\x00\x00\x00\x03", "\x03\x00"}
	for _, head := range heads {
		no := head + "one" + sumOf(head+"one")
		wantScan(t, no, nil, 0)
		wantScan(t, frame("ahead")+no+frame("behind"), []string{"ahead"}, len(frame("ahead")))
	}
	wantScan(t, "\x03one"+sumOf("\x03one"), []string{"one"}, 8)
	long := some(128, 0)
	for head, records := range map[string][]string{"\x80\x01": {long}, "\x80\x81\x00": nil} {
		s := head + long + sumOf(head+long)
		wantScan(t, s, records, len(records)*len(s))
	}
}

// TestScanInside (P12.1): a frame that stands inside a record is of the record alone, and is not looked for in one that is broken.
func TestScanInside(t *testing.T) {
	inner := frames("in", "ner")
	outer := frame(inner)
	wantScan(t, outer, []string{inner}, len(outer))
	wantScan(t, outer+inner, []string{inner, "in", "ner"}, len(outer)+len(inner))
	wantScan(t, outer[:len(outer)-1], nil, 0)
	wantScan(t, outer[:len(outer)-1]+"\x00"+inner, nil, 0)
	wantScan(t, outer[1:], []string{"in", "ner"}, len(inner))
}

// TestScanOwn (P12.1, P3): the records share no memory with what was scanned, and two lists none with one another, spare room too.
func TestScanOwn(t *testing.T) {
	for many := 1; many <= 20; many++ {
		records := []string{}
		for i := range many {
			records = append(records, some(3+i, i))
		}
		s := frames(records...)
		a, _ := Scan(s)
		b, _ := Scan(s)
		if !slices.Equal(a, records) || !slices.Equal(b, records) {
			t.Fatalf("Scan = %q, %q; want %q", a, b, records)
		}
		from, at := uintptr(unsafe.Pointer(unsafe.StringData(s))), 0
		for _, r := range a {
			if p := uintptr(unsafe.Pointer(unsafe.StringData(r))); p >= from && p < from+uintptr(len(s)) {
				t.Errorf("a record is a piece of what was scanned, at %d", at)
			}
			at += len(frame(r))
		}
		clear(a[:cap(a)])
		if !slices.Equal(b, records) {
			t.Errorf("two lists are one: %q", b)
		}
	}
}

// TestScanRandom (P12.1): frames that are cut, joined, broken and mixed with junk, as the chapter's words say.
func TestScanRandom(t *testing.T) {
	chance := rand.New(rand.NewSource(12))
	var whole, none, short int
	for range 1500 {
		s := ""
		for range chance.Intn(6) {
			f := frame(some(chance.Intn(1+chance.Intn(200)), chance.Intn(256)))
			switch chance.Intn(12) {
			case 0:
				f = f[chance.Intn(len(f)):]
			case 1:
				f = f[:chance.Intn(len(f))]
			case 2:
				f = strings.Repeat("\x00", len(f))
			case 3:
				b := []byte(f)
				b[chance.Intn(len(b))] ^= 1 << chance.Intn(8)
				f = string(b)
			}
			s += f
		}
		records, size := scanned(s)
		wantScan(t, s, records, size)
		switch {
		case size == len(s):
			whole++
		case size == 0:
			none++
		default:
			short++
		}
	}
	if min(whole, none, short) < 200 {
		t.Error("too little is tried:", whole, none, short)
	}
}

// TestOpenEmpty (P12.2): on an empty disk there are no records; the first one stands at its first byte.
func TestOpenEmpty(t *testing.T) {
	for _, room := range []int{1, 2, 6, 100, 1 << 24} {
		d, l := fresh(t, room)
		wantStands(t, opened(t, d), d, nil, 0)
		wantErr(t, "Append", l.Append("x"), map[bool]api.Errno{true: api.OK, false: api.ErrFull}[room >= 6])
	}
}

// TestOpenCuts (P12.2): the disk keeps what ends with the last whole frame, and all of that is synced, whatever was synced before, and whatever stood behind.
func TestOpenCuts(t *testing.T) {
	broken := frame("broken")[:9] + "\x00"
	tails := [][]string{{}, {""}, {"\x00"}, {"junk"}, {frame("one")[:7]}, {broken}, {broken, frame("behind")}, {frame("")}, {frame(""), frame("behind")}, {frame(some(2049, 0))}, {strings.Repeat("\x00", 500)}}
	for _, records := range [][]string{{}, {"one"}, {"one", "two two", some(2048, 1)}} {
		for _, tail := range tails {
			blocks := append(strings.SplitAfter(frames(records...), "two two"), tail...)
			for synced := range len(blocks) + 1 {
				d, _ := disk.New(20000)
				junk(t, d, blocks[:synced]...)
				d.Sync()
				junk(t, d, blocks[synced:]...)
				l := opened(t, d)
				wantStands(t, l, d, records, len(records))
				d.Crash(0)
				wantStands(t, l, d, records, len(records))
				appended(t, l, "next")
				wantStands(t, opened(t, d), d, append(slices.Clone(records), "next"), len(records)+1)
			}
		}
	}
}

// TestOpenEndsHold (P12.2): the disk is Cut always, so that it is not held behind Open, also where nothing was cut off.
func TestOpenEndsHold(t *testing.T) {
	for _, tail := range []string{"", "junk"} {
		for _, there := range [][]string{nil, {"one"}} {
			d, _ := disk.New(100)
			junk(t, d, frames(there...), tail)
			d.Sync()
			d.Hold()
			l := opened(t, d)
			wantStands(t, l, d, there, len(there))
			appended(t, l, "two")
			l.Sync()
			wantStands(t, l, d, append(slices.Clone(there), "two"), len(there)+1)
		}
	}
}

// TestOpenRoom (P12.2): what Open cuts off is room again.
func TestOpenRoom(t *testing.T) {
	d, _ := disk.New(24)
	junk(t, d, frame("one"), strings.Repeat("j", 16))
	l := opened(t, d)
	wantErr(t, "Append", l.Append(some(12, 0)), api.ErrFull)
	appended(t, l, some(11, 0))
	wantStands(t, l, d, []string{"one", some(11, 0)}, 1)
}

// TestKnown (P12.2): calls with what stands behind them written out.
func TestKnown(t *testing.T) {
	d, l := fresh(t, 30)
	appended(t, l, "a")
	if want := bytesOf(t, "016162777270"); d.Bytes() != want || d.Synced() != 0 {
		t.Errorf("%x, %d", d.Bytes(), d.Synced())
	}
	appended(t, l, "one")
	l.Sync()
	if want := bytesOf(t, "016162777270"+"036f6e65b6dc2f11"); d.Bytes() != want || d.Synced() != 14 {
		t.Errorf("%x, %d", d.Bytes(), d.Synced())
	}
	wantStands(t, l, d, []string{"a", "one"}, 2)
	wantErr(t, "Append of nothing", l.Append(""), api.ErrLong)
	wantErr(t, "Append of a long one", l.Append(some(2049, 0)), api.ErrLong)
	wantErr(t, "Append above the room", l.Append("two two two!"), api.ErrFull)
	wantStands(t, l, d, []string{"a", "one"}, 2)
	appended(t, l, "two two two")
	wantStands(t, l, d, []string{"a", "one", "two two two"}, 2)
	wantErr(t, "Append to a full disk", l.Append("x"), api.ErrFull)
	d.Crash(0)
	wantStands(t, opened(t, d), d, []string{"a", "one"}, 2)
}

// TestAppendRoom (P12.2): a record may fill the disk to its last byte, and not pass it; one that has no frame is ErrLong there too.
func TestAppendRoom(t *testing.T) {
	for _, many := range []int{1, 2, 3, 126, 127, 128, 129, 2047, 2048} {
		record := some(many, 1)
		for _, there := range [][]string{{}, {"ahead"}, {"a", some(100, 2)}} {
			need := len(frames(there...)) + len(frame(record))
			for _, room := range []int{need - 1, need, need + 1} {
				d, l := fresh(t, room)
				appended(t, l, there...)
				l.Sync()
				if room < need {
					wantErr(t, "Append above the room", l.Append(record), api.ErrFull)
					wantStands(t, l, d, there, len(there))
				} else {
					wantErr(t, "Append", l.Append(record), api.OK)
					wantStands(t, l, d, append(slices.Clone(there), record), len(there))
				}
				for _, size := range longs() {
					wantErr(t, "Append of one without a frame", l.Append(some(size, 0)), api.ErrLong)
				}
			}
		}
	}
}

// TestAppendRefused (P12.2, P2): an Append that is refused turns nothing: the records, what is synced, which block is which, and the hold.
func TestAppendRefused(t *testing.T) {
	d, l := fresh(t, 40)
	refused := func(records []string, synced int) {
		t.Helper()
		for _, size := range longs() {
			wantErr(t, "Append of one without a frame", l.Append(some(size, 0)), api.ErrLong)
		}
		for _, size := range []int{36, 100, 128, 2048} {
			wantErr(t, "Append above the room", l.Append(some(size, 0)), api.ErrFull)
		}
		wantStands(t, l, d, records, synced)
	}
	refused(nil, 0)
	appended(t, l, "a")
	l.Sync()
	refused([]string{"a"}, 1)
	appended(t, l, "b")
	refused([]string{"a", "b"}, 1)
	appended(t, l, "c")
	d.Hold()
	refused([]string{"a", "b", "c"}, 1)
	l.Sync()
	refused([]string{"a", "b", "c"}, 1)
	d.Crash(0b01)
	l = opened(t, d)
	refused([]string{"a", "b"}, 2)
}

// TestSync (P12.2): all records that are there are synced, those that come behind are not; not while the disk is held.
func TestSync(t *testing.T) {
	d, l := fresh(t, 1000)
	l.Sync()
	wantStands(t, l, d, nil, 0)
	appended(t, l, "one")
	wantStands(t, l, d, []string{"one"}, 0)
	l.Sync()
	wantStands(t, l, d, []string{"one"}, 1)
	appended(t, l, "two", "three")
	wantStands(t, l, d, []string{"one", "two", "three"}, 1)
	l.Sync()
	l.Sync()
	wantStands(t, l, d, []string{"one", "two", "three"}, 3)
	d.Hold()
	appended(t, l, "four")
	l.Sync()
	wantStands(t, l, d, []string{"one", "two", "three", "four"}, 3)
	d.Crash(0)
	l = opened(t, d)
	wantStands(t, l, d, []string{"one", "two", "three"}, 3)
	appended(t, l, "five")
	l.Sync()
	d.Crash(0)
	wantStands(t, opened(t, d), d, []string{"one", "two", "three", "five"}, 4)
}

// TestRecords (P12.2): all records, in order, one that is there twice twice; any bytes.
func TestRecords(t *testing.T) {
	d, l := fresh(t, 1<<20)
	every := make([]byte, 256)
	for i := range every {
		every[i] = byte(i)
	}
	want := []string{}
	for _, r := range []string{"b", "a", "b", "b", "\x00", "\x00\x00\x00\x00\x00\x00", string(every), "\xff", "h\u00e9", frame("in"), "\x80\x80", some(2048, 3), some(1, 4), some(127, 5), some(128, 6)} {
		appended(t, l, r)
		want = append(want, r)
		wantStands(t, l, d, want, 0)
	}
	wantStands(t, opened(t, d), d, want, len(want))
}

// TestRecordsOwn (P12.2, P3): each list is its own, spare room too, and stays as it was, whatever is done behind it.
func TestRecordsOwn(t *testing.T) {
	d, l := fresh(t, 1000)
	want := []string{}
	for i := range 20 {
		appended(t, l, some(3, i))
		want = append(want, some(3, i))
		a, b := l.Records(), l.Records()
		clear(a[:cap(a)])
		if !slices.Equal(b, want) {
			t.Errorf("two lists are one: %q", b)
		}
		wantStands(t, l, d, want, 0)
	}
	told := l.Records()
	d.Crash(0)
	Open(d)
	appended(t, opened(t, d), "other")
	if !slices.Equal(told, want) {
		t.Errorf("what was told is turned: %q", told)
	}
}

// TestAppendKeepsNothing (P3): a record is laid on the disk as it is; its memory is not kept.
func TestAppendKeepsNothing(t *testing.T) {
	_, l := fresh(t, 1000)
	record := strings.Clone("a record")
	appended(t, l, record)
	if got := l.Records(); unsafe.StringData(got[0]) == unsafe.StringData(record) {
		t.Error("the record that was handed in is kept")
	}
	again := l.Records()
	if unsafe.StringData(l.Records()[0]) == unsafe.StringData(again[0]) {
		t.Error("two answers share a record's memory")
	}
}

// TestOpenMany (P12.2): logs that are opened one behind the other on one disk have what those ahead of them appended.
func TestOpenMany(t *testing.T) {
	d, l := fresh(t, 1<<20)
	want := []string{}
	for i := range 60 {
		record := some(1+i*i%2048, i)
		appended(t, l, record)
		want = append(want, record)
		if i%3 == 0 {
			l.Sync()
			d.Crash(0)
		}
		if i%7 == 0 {
			junk(t, d, some(i, 200))
		}
		l = opened(t, d)
		wantStands(t, l, d, want, len(want))
	}
}

// TestApart (P12.2): what is done to one log changes nothing of one on another disk.
func TestApart(t *testing.T) {
	d, l := fresh(t, 100)
	other, m := fresh(t, 100)
	appended(t, l, "one", "two")
	appended(t, m, "three")
	m.Sync()
	wantStands(t, l, d, []string{"one", "two"}, 0)
	wantStands(t, m, other, []string{"three"}, 1)
	d.Crash(0)
	l = opened(t, d)
	appended(t, m, "four")
	wantStands(t, l, d, nil, 0)
	wantStands(t, m, other, []string{"three", "four"}, 1)
}

// TestLarge (P12.2): a large log, appended till the disk is full, and opened anew.
func TestLarge(t *testing.T) {
	d, l := fresh(t, 1<<19)
	want := []string{}
	for i := 0; i < 1000; i++ {
		e := l.Append(some(2048, i))
		if e == api.ErrFull {
			break
		}
		wantErr(t, "Append", e, api.OK)
		want = append(want, some(2048, i))
	}
	if len(want) != 1<<19/2054 {
		t.Errorf("%d records", len(want))
	}
	wantStands(t, l, d, want, 0)
	wantStands(t, opened(t, d), d, want, len(want))
}

// survivors is how many records a crash leaves of many, the first so many of them synced.
func survivors(many, synced int, kept uint64) int {
	for k := 0; synced+k < many; k++ {
		if k > 63 || kept>>uint(k)&1 == 0 {
			return synced + k
		}
	}
	return many
}

// TestCrash (P12.3): whichever blocks are kept, the records are those that were synced and those that stood next behind them, up to the first that was lost; opened again it is the same.
func TestCrash(t *testing.T) {
	records := []string{"one", "two two", "x", some(130, 1), "five", some(2048, 2), "seven"}
	for synced := range len(records) + 1 {
		for many := synced; many <= len(records); many++ {
			for kept := range uint64(1) << (many - synced) {
				d, l := fresh(t, 10000)
				appended(t, l, records[:synced]...)
				l.Sync()
				appended(t, l, records[synced:many]...)
				d.Crash(kept)
				left := survivors(many, synced, kept)
				if got := l.Records(); !slices.Equal(got, records[:left]) {
					t.Errorf("kept %b of %d from %d on: %.80q", kept, many, synced, got)
				}
				for range 3 {
					l = opened(t, d)
					wantStands(t, l, d, records[:left], left)
				}
				d.Crash(0)
				wantStands(t, opened(t, d), d, records[:left], left)
				appended(t, l, "next")
				l.Sync()
				d.Crash(0)
				wantStands(t, opened(t, d), d, append(slices.Clone(records[:left]), "next"), left+1)
			}
		}
	}
}

// TestCrashMany (P12.3): of the records above the 64th that is not synced none is kept.
func TestCrashMany(t *testing.T) {
	for _, synced := range []int{0, 1, 70} {
		for _, behind := range []int{63, 64, 65, 66, 130} {
			for _, kept := range []uint64{math.MaxUint64, math.MaxUint64 - 1, math.MaxUint64 >> 1, 0, 1, 1<<40 - 1, 1 << 63} {
				d, l := fresh(t, 10000)
				want := []string{}
				for i := range synced + behind {
					appended(t, l, some(1+i%9, i))
					want = append(want, some(1+i%9, i))
					if i+1 == synced {
						l.Sync()
					}
				}
				d.Crash(kept)
				left := survivors(len(want), synced, kept)
				wantStands(t, opened(t, d), d, want[:left], left)
				wantStands(t, opened(t, d), d, want[:left], left)
			}
		}
	}
}

// script makes calls of a log and its disk, and holds them against a plain list of records; the more seldom it makes others than Append, the more records are not synced.
type script struct {
	chance  *rand.Rand
	room    int
	seldom  int
	disk    *disk.Disk
	log     *Log
	records []string
	synced  int
	held    bool
	calls   [7]int
	refused [api.ErrFull + 1]int
	lost    int
}

// appends appends one record, such as may have no frame, or no room.
func (x *script) appends(t *testing.T) {
	t.Helper()
	size := []int{0, 1, 2, 5, 7, 20, 30, 100, 128, 300, 2048, 2049}[x.chance.Intn(12)]
	record := some(size, x.chance.Intn(256))
	want := api.OK
	switch {
	case size == 0 || size > 2048:
		want = api.ErrLong
	case len(frames(x.records...))+len(frame(record)) > x.room:
		want = api.ErrFull
	default:
		x.records = append(x.records, record)
	}
	wantErr(t, "Append", x.log.Append(record), want)
	x.refused[want]++
}

// cuts cuts the disk somewhere in the last frames.
func (x *script) cuts() {
	size := len(x.disk.Bytes())
	size -= x.chance.Intn(1 + min(size, 40))
	x.disk.Cut(size)
	for len(frames(x.records...)) > size {
		x.records = x.records[:len(x.records)-1]
	}
}

// crashes has the disk crash.
func (x *script) crashes() {
	kept := []uint64{0, 1, 3, math.MaxUint64, x.chance.Uint64(), ^(1 << x.chance.Intn(6))}[x.chance.Intn(6)]
	x.disk.Crash(kept)
	left := survivors(len(x.records), x.synced, kept)
	x.lost += len(x.records) - left
	x.records = x.records[:left]
}

// does has one call done.
func (x *script) does(t *testing.T) {
	t.Helper()
	call := x.chance.Intn(x.seldom)
	switch call {
	case 0:
		x.crashes()
	case 1:
		x.cuts()
	case 2:
		x.disk.Append("\x80junk")
	case 3:
		x.disk.Hold()
		x.held = true
	case 4:
	case 5:
		x.log.Sync()
		if !x.held {
			x.synced = len(x.records)
		}
	default:
		x.appends(t)
	}
	x.calls[min(call, 6)]++
	if call == 0 || call == 1 || call == 2 || call == 4 {
		x.log = opened(t, x.disk)
		x.synced, x.held = len(x.records), false
	}
	wantStands(t, x.log, x.disk, x.records, x.synced)
}

// TestScripts (P12.1 to P12.3): long scripts of a log's calls, with crashes, cuts and junk on its disk, answer by answer as the chapter's words say.
func TestScripts(t *testing.T) {
	var calls [7]int
	var refused [api.ErrFull + 1]int
	lost := 0
	for seed := range 250 {
		chance := rand.New(rand.NewSource(int64(seed)))
		x := &script{chance: chance, room: []int{5, 200, 2000, 9000}[chance.Intn(4)], seldom: []int{10, 40}[chance.Intn(2)]}
		x.disk, x.log = fresh(t, x.room)
		for range 100 {
			x.does(t)
			if t.Failed() {
				t.Fatalf("script %d", seed)
			}
		}
		for i, n := range x.calls {
			calls[i] += n
		}
		for i, n := range x.refused {
			refused[i] += n
		}
		lost += x.lost
	}
	if slices.Min(calls[:]) < 500 || min(refused[api.OK], refused[api.ErrLong], refused[api.ErrFull], lost) < 500 {
		t.Error("the scripts try too little:", calls, refused, lost)
	}
}
