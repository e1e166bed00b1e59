package disk

import (
	"math"
	"math/rand"
	"slices"
	"strings"
	"testing"

	"tenement/api"
)

// fresh is a disk where nothing was done yet.
func fresh(t *testing.T, room int) *Disk {
	t.Helper()
	d, e := New(room)
	if d == nil || e != api.OK {
		t.Fatalf("New(%d) = %v, %d", room, d, e)
	}
	wantStands(t, d, "", 0)
	return d
}

// wantStands asks Bytes and Synced.
func wantStands(t *testing.T, d *Disk, bytes string, synced int) {
	t.Helper()
	if d.Bytes() != bytes || d.Synced() != synced {
		t.Errorf("Bytes, Synced = %q, %d; want %q, %d", d.Bytes(), d.Synced(), bytes, synced)
	}
}

// wantErr asks what a call told.
func wantErr(t *testing.T, call string, got, want api.Errno) {
	t.Helper()
	if got != want {
		t.Errorf("%s = %d; want %d", call, got, want)
	}
}

// appended has those blocks on the disk, behind what is there.
func appended(t *testing.T, d *Disk, blocks ...string) {
	t.Helper()
	for _, s := range blocks {
		if e := d.Append(s); e != api.OK {
			t.Fatalf("Append(%q) = %d", s, e)
		}
	}
}

// nothing is so many bytes that were not kept.
func nothing(many int) string {
	return strings.Repeat("\x00", many)
}

// kept is what is left of blocks that are not synced, by the words of the chapter.
func kept(blocks []string, bits uint64) string {
	out := ""
	for k, s := range blocks {
		if k <= 63 && bits&(1<<uint(k)) != 0 {
			out += s
		} else {
			out += nothing(len(s))
		}
	}
	return out
}

// TestNew (P11.1): a new disk has nothing on it, at the least and the greatest room too; the chapter's example: Synced of a new one is 0.
func TestNew(t *testing.T) {
	for _, room := range []int{1, 2, 3, 100, 1 << 16, 1<<24 - 1, 1 << 24} {
		d := fresh(t, room)
		d.Sync()
		wantStands(t, d, "", 0)
		d.Crash(math.MaxUint64)
		wantStands(t, d, "", 0)
		wantErr(t, "Cut of 1", d.Cut(1), api.ErrArg)
		wantErr(t, "Cut of 0", d.Cut(0), api.OK)
		wantStands(t, d, "", 0)
		appended(t, d, "x")
		wantStands(t, d, "x", 0)
	}
}

// TestNewWrong (P11.1): a room that may not be, such as would be right in fewer bits among them.
func TestNewWrong(t *testing.T) {
	wrong := []int{0, -1, -2, -1 << 24, 1<<24 + 1, 1<<24 + 2, 1 << 25, math.MaxInt32, math.MinInt32,
		1 << 32, 1<<32 + 1, 1<<32 + 1<<24, -1<<32 + 1, math.MaxInt, math.MinInt, math.MinInt + 1}
	for _, room := range wrong {
		if d, e := New(room); d != nil || e != api.ErrArg {
			t.Errorf("New(%d) = %v, %d; want nil, ErrArg", room, d, e)
		}
	}
}

// TestKnown (P11.1, P11.2): calls with what stands behind them written out.
func TestKnown(t *testing.T) {
	d := fresh(t, 12)
	appended(t, d, "one")
	wantStands(t, d, "one", 0)
	d.Sync()
	wantStands(t, d, "one", 3)
	appended(t, d, "A", "bb", "", "C")
	wantStands(t, d, "oneAbbC", 3)
	d.Crash(0b1010)
	wantStands(t, d, "one\x00bbC", 7)
	appended(t, d, "more")
	wantErr(t, "Append above the room", d.Append("xx"), api.ErrFull)
	wantStands(t, d, "one\x00bbCmore", 7)
	wantErr(t, "Cut", d.Cut(8), api.OK)
	wantStands(t, d, "one\x00bbCm", 8)
	d.Crash(0)
	wantStands(t, d, "one\x00bbCm", 8)
	d.Hold()
	appended(t, d, "end")
	d.Sync()
	wantStands(t, d, "one\x00bbCmend", 8)
	d.Crash(0)
	wantStands(t, d, "one\x00bbCm\x00\x00\x00", 11)
	appended(t, d, "!")
	d.Sync()
	wantStands(t, d, "one\x00bbCm\x00\x00\x00!", 12)
	wantErr(t, "Cut", d.Cut(3), api.OK)
	wantStands(t, d, "one", 3)
}

// TestRoom (P11.1): at each room an Append may fill it to its last byte, and not pass it; nothing may still stand behind a full disk.
func TestRoom(t *testing.T) {
	for room := 1; room <= 40; room++ {
		for there := range room + 1 {
			d := fresh(t, room)
			before, rest := strings.Repeat("a", there), strings.Repeat("b", room-there)
			appended(t, d, before)
			wantErr(t, "Append above the room", d.Append(rest+"c"), api.ErrFull)
			wantErr(t, "Append far above the room", d.Append(strings.Repeat("c", 300)), api.ErrFull)
			wantStands(t, d, before, 0)
			appended(t, d, rest)
			wantStands(t, d, before+rest, 0)
			wantErr(t, "Append to a full disk", d.Append("c"), api.ErrFull)
			wantErr(t, "Append of nothing to a full disk", d.Append(""), api.OK)
			wantStands(t, d, before+rest, 0)
			d.Sync()
			wantErr(t, "Append to a full disk", d.Append("c"), api.ErrFull)
			wantErr(t, "Append of nothing to a full disk", d.Append(""), api.OK)
			wantStands(t, d, before+rest, room)
		}
	}
}

// TestRoomAgain (P11.1, P11.2): what a Cut leaves free may be filled again, to the last byte; what a crash took from blocks is no room.
func TestRoomAgain(t *testing.T) {
	d := fresh(t, 6)
	appended(t, d, "abc", "def")
	d.Crash(0)
	wantErr(t, "Append", d.Append("x"), api.ErrFull)
	wantStands(t, d, nothing(6), 6)
	wantErr(t, "Cut", d.Cut(2), api.OK)
	wantErr(t, "Append", d.Append("vwxyz"), api.ErrFull)
	appended(t, d, "wxyz")
	wantStands(t, d, nothing(2)+"wxyz", 2)
	wantErr(t, "Append", d.Append("x"), api.ErrFull)
	wantErr(t, "Cut", d.Cut(0), api.OK)
	appended(t, d, "abcdef")
	wantStands(t, d, "abcdef", 0)
}

// TestGreatest (P11.1, P11.2): the greatest disk, filled to its last byte, and cut, and filled again.
func TestGreatest(t *testing.T) {
	d := fresh(t, 1<<24)
	piece := strings.Repeat("p", 1<<20)
	for range 15 {
		appended(t, d, piece)
	}
	d.Sync()
	wantErr(t, "Append", d.Append(piece+"x"), api.ErrFull)
	appended(t, d, piece[1:])
	wantErr(t, "Append", d.Append("xy"), api.ErrFull)
	appended(t, d, "x")
	wantErr(t, "Append", d.Append("y"), api.ErrFull)
	if d.Bytes() != strings.Repeat("p", 1<<24-1)+"x" || d.Synced() != 15<<20 {
		t.Error(len(d.Bytes()), d.Synced())
	}
	d.Crash(0b10)
	if d.Bytes() != strings.Repeat("p", 15<<20)+nothing(1<<20-1)+"x" || d.Synced() != 1<<24 {
		t.Error(len(d.Bytes()), d.Synced())
	}
	wantErr(t, "Cut", d.Cut(1<<24+1), api.ErrArg)
	wantErr(t, "Cut", d.Cut(1<<24-1), api.OK)
	appended(t, d, "z")
	wantErr(t, "Append", d.Append("y"), api.ErrFull)
	if d.Bytes() != strings.Repeat("p", 15<<20)+nothing(1<<20-1)+"z" || d.Synced() != 1<<24-1 {
		t.Error(len(d.Bytes()), d.Synced())
	}
}

// TestAppendRefused (P11.1, P11.2): an Append that is refused is no block, ends no hold, and syncs nothing.
func TestAppendRefused(t *testing.T) {
	d := fresh(t, 4)
	refused := func(bytes string, synced int) {
		t.Helper()
		for _, s := range []string{"12345", strings.Repeat("x", 1000)} {
			wantErr(t, "Append above the room", d.Append(s), api.ErrFull)
		}
		wantStands(t, d, bytes, synced)
	}
	refused("", 0)
	appended(t, d, "a")
	refused("a", 0)
	appended(t, d, "b")
	d.Hold()
	refused("ab", 0)
	appended(t, d, "c")
	refused("abc", 0)
	d.Sync()
	refused("abc", 0)
	appended(t, d, "d")
	d.Crash(0b1010)
	wantStands(t, d, "\x00b\x00d", 4)
}

// TestSync (P11.1): all blocks that are there are synced, and those that come behind are not; a Sync with nothing new changes nothing.
func TestSync(t *testing.T) {
	d := fresh(t, 100)
	all := ""
	for _, blocks := range [][]string{{"a"}, {}, {"bc", "d"}, {""}, {"", "e", ""}, {"fgh", "i", "jk", "lmnop"}} {
		synced := len(all)
		for _, s := range blocks {
			appended(t, d, s)
			all += s
			wantStands(t, d, all, synced)
		}
		d.Sync()
		wantStands(t, d, all, len(all))
		d.Sync()
		wantStands(t, d, all, len(all))
	}
	for _, bits := range []uint64{0, 1, 0b10, math.MaxUint64} {
		d.Crash(bits)
		wantStands(t, d, all, len(all))
	}
}

// TestHold (P11.1, P11.2): while it is held no Sync does anything, whenever the blocks came; what was synced ahead stays so.
func TestHold(t *testing.T) {
	d := fresh(t, 100)
	appended(t, d, "ab")
	d.Sync()
	appended(t, d, "c")
	d.Hold()
	wantStands(t, d, "abc", 2)
	d.Sync()
	wantStands(t, d, "abc", 2)
	appended(t, d, "d", "e")
	for range 3 {
		d.Sync()
		d.Hold()
		wantStands(t, d, "abcde", 2)
	}
	d.Crash(0b101)
	wantStands(t, d, "abc\x00e", 5)
}

// TestHoldEnds (P11.1, P11.2): a Crash ends it, and a Cut, each of all Holds ahead of it, also where nothing was lost or cut off.
func TestHoldEnds(t *testing.T) {
	ends := []func(d *Disk){
		func(d *Disk) { d.Crash(0) },
		func(d *Disk) { d.Crash(math.MaxUint64) },
		func(d *Disk) { d.Cut(0) },
		func(d *Disk) { d.Cut(len(d.Bytes())) },
		func(d *Disk) { d.Cut(len(d.Bytes()) / 2) },
	}
	for i, end := range ends {
		for _, first := range []string{"", "first"} {
			d := fresh(t, 100)
			appended(t, d, first)
			for range 2 {
				d.Hold()
				d.Hold()
				end(d)
				stays := d.Bytes()
				wantStands(t, d, stays, len(stays))
				appended(t, d, "x")
				wantStands(t, d, stays+"x", len(stays))
				d.Sync()
				wantStands(t, d, stays+"x", len(stays)+1)
				if t.Failed() {
					t.Fatal("end", i, first)
				}
			}
		}
	}
}

// TestCrash (P11.2): of no, one, up to five blocks, each choice of those that are kept, behind what is synced and without; what bits stand above them counts not.
func TestCrash(t *testing.T) {
	for _, synced := range []string{"", "S", "synced"} {
		blocks := []string{"a", "bb", "ccc", "dddd", "e"}
		for many := range len(blocks) + 1 {
			for bits := range uint64(1) << many {
				for _, above := range []uint64{0, math.MaxUint64 << many} {
					d := fresh(t, 20)
					appended(t, d, synced)
					d.Sync()
					appended(t, d, blocks[:many]...)
					d.Crash(bits | above)
					want := synced + kept(blocks[:many], bits)
					wantStands(t, d, want, len(want))
				}
			}
		}
	}
}

// TestCrashMany (P11.2): of more than 64 blocks those above the 63rd do not stay, whatever is kept; each bit keeps its own block alone.
func TestCrashMany(t *testing.T) {
	for _, many := range []int{1, 62, 63, 64, 65, 66, 127, 128, 129, 200} {
		blocks := make([]string, many)
		for i := range blocks {
			blocks[i] = strings.Repeat(string(rune('a'+i%26)), 1+i%3)
		}
		choices := []uint64{0, math.MaxUint64, 1<<63 | 1, 0xaaaaaaaaaaaaaaaa, 0x5555555555555555}
		for k := range 64 {
			choices = append(choices, 1<<k, math.MaxUint64-1<<k)
		}
		for _, bits := range choices {
			d := fresh(t, 1000)
			appended(t, d, "synced")
			d.Sync()
			appended(t, d, blocks...)
			wantStands(t, d, "synced"+strings.Join(blocks, ""), 6)
			d.Crash(bits)
			want := "synced" + kept(blocks, bits)
			wantStands(t, d, want, len(want))
		}
	}
}

// TestCrashNothing (P11.2): with nothing that is not synced a Crash takes nothing, and so does a second one.
func TestCrashNothing(t *testing.T) {
	for _, bits := range []uint64{0, 1, math.MaxUint64} {
		d := fresh(t, 100)
		d.Crash(bits)
		wantStands(t, d, "", 0)
		appended(t, d, "abc")
		d.Sync()
		d.Crash(bits)
		wantStands(t, d, "abc", 3)
		appended(t, d, "d", "e")
		d.Crash(0b10)
		wantStands(t, d, "abc\x00e", 5)
		d.Crash(bits)
		wantStands(t, d, "abc\x00e", 5)
	}
}

// TestCrashCounts (P11.2): the blocks are counted anew from 0 on behind a Sync, a Crash, or a Cut, and go on behind a Sync that is held.
func TestCrashCounts(t *testing.T) {
	type step struct {
		name    string
		do      func(d *Disk)
		bits    uint64
		anew    bool
		leaving int
	}
	steps := []step{
		{"Sync", (*Disk).Sync, 0b01, true, 3},
		{"Crash", func(d *Disk) { d.Crash(math.MaxUint64) }, 0b01, true, 3},
		{"Cut to all", func(d *Disk) { d.Cut(3) }, 0b01, true, 3},
		{"Cut between two", func(d *Disk) { d.Cut(2) }, 0b01, true, 2},
		{"Cut to nothing", func(d *Disk) { d.Cut(0) }, 0b01, true, 0},
		{"Sync while held", func(d *Disk) { d.Hold(); d.Sync() }, 0b01000, false, 3},
		{"Hold", (*Disk).Hold, 0b01000, false, 3},
		{"Cut that is refused", func(d *Disk) { d.Cut(4) }, 0b01000, false, 3},
	}
	for _, x := range steps {
		d := fresh(t, 100)
		appended(t, d, "a", "b", "c")
		x.do(d)
		appended(t, d, "x", "y")
		d.Crash(x.bits)
		want := "abc"[:x.leaving] + "x\x00"
		if !x.anew {
			want = "\x00\x00\x00x\x00"
		}
		if d.Bytes() != want || d.Synced() != len(want) {
			t.Errorf("%s: %q, %d; want %q", x.name, d.Bytes(), d.Synced(), want)
		}
	}
}

// TestEmptyBlocks (P11.1, P11.2): a text of nothing is a block, and has its bit as others have, at a full disk too.
func TestEmptyBlocks(t *testing.T) {
	d := fresh(t, 6)
	appended(t, d, "", "a", "", "", "b", "")
	wantStands(t, d, "ab", 0)
	d.Crash(0b010000)
	wantStands(t, d, "\x00b", 2)
	appended(t, d, "", "")
	d.Crash(0)
	wantStands(t, d, "\x00b", 2)
	for range 63 {
		appended(t, d, "")
	}
	appended(t, d, "c", "d")
	d.Crash(math.MaxUint64)
	wantStands(t, d, "\x00bc\x00", 4)
	appended(t, d, "ef", "")
	d.Sync()
	for range 70 {
		appended(t, d, "")
	}
	wantStands(t, d, "\x00bc\x00ef", 6)
	d.Crash(0)
	wantStands(t, d, "\x00bc\x00ef", 6)
}

// TestEmptyMany (P11.1, P11.2): however many blocks of nothing there are, the next one has its place behind them.
func TestEmptyMany(t *testing.T) {
	d := fresh(t, 2)
	appended(t, d, "a")
	for range 1_000_000 {
		if d.Append("") != api.OK {
			t.Fatal("Append of nothing")
		}
	}
	appended(t, d, "b")
	d.Crash(math.MaxUint64)
	wantStands(t, d, "a\x00", 2)
}

// TestCut (P11.2): to each size that there is, in the midst of a block and between two, below what is synced and above: the first so many bytes are left, and synced.
func TestCut(t *testing.T) {
	blocks := []string{"abc", "", "d", "efgh", "ij"}
	all := strings.Join(blocks, "")
	for synced := range len(blocks) + 1 {
		for size := range len(all) + 1 {
			d := fresh(t, 20)
			appended(t, d, blocks[:synced]...)
			d.Sync()
			appended(t, d, blocks[synced:]...)
			wantErr(t, "Cut", d.Cut(size), api.OK)
			wantStands(t, d, all[:size], size)
			d.Crash(0)
			wantStands(t, d, all[:size], size)
			appended(t, d, "x", "y")
			wantStands(t, d, all[:size]+"xy", size)
			d.Crash(0b10)
			wantStands(t, d, all[:size]+"\x00y", size+2)
		}
	}
}

// TestCutWrong (P11.2): a size below 0, or above how many bytes there are, turns nothing: what is synced, what is not, which block is which, and the hold.
func TestCutWrong(t *testing.T) {
	wrong := []int{-1, -2, -8, 9, 10, 100, 1 << 24, 1<<32 + 1, -1<<32 + 1, math.MaxInt32, math.MinInt32, math.MaxInt, math.MinInt, math.MinInt + 1}
	for _, size := range wrong {
		d := fresh(t, 20)
		appended(t, d, "abc")
		d.Sync()
		appended(t, d, "de", "fgh")
		wantErr(t, "Cut", d.Cut(size), api.ErrArg)
		wantStands(t, d, "abcdefgh", 3)
		d.Hold()
		wantErr(t, "Cut", d.Cut(size), api.ErrArg)
		d.Sync()
		wantStands(t, d, "abcdefgh", 3)
		d.Crash(0b10)
		wantStands(t, d, "abc\x00\x00fgh", 8)
		wantErr(t, "Cut", d.Cut(size), api.ErrArg)
		wantStands(t, d, "abc\x00\x00fgh", 8)
		appended(t, d, "i")
		d.Sync()
		wantStands(t, d, "abc\x00\x00fghi", 9)
	}
}

// TestSyncedStays (P11.3): what is synced is there behind each call but a Cut below it, whichever blocks are kept, held or not.
func TestSyncedStays(t *testing.T) {
	chance := rand.New(rand.NewSource(113))
	for range 300 {
		d := fresh(t, 400)
		safe := ""
		for range 100 {
			switch chance.Intn(6) {
			case 0:
				d.Sync()
			case 1:
				d.Hold()
			case 2:
				d.Crash([]uint64{0, math.MaxUint64, chance.Uint64()}[chance.Intn(3)])
			case 3:
				d.Cut(d.Synced() + chance.Intn(20))
			default:
				d.Append(strings.Repeat("x", chance.Intn(9)))
			}
			if !strings.HasPrefix(d.Bytes(), safe) || d.Synced() < len(safe) || d.Synced() > len(d.Bytes()) {
				t.Fatalf("%q was synced; then %q, %d", safe, d.Bytes(), d.Synced())
			}
			safe = d.Bytes()[:d.Synced()]
		}
	}
}

// TestBytes (P11.1, P3): any bytes are told as they were appended; what was told stays as it was, whatever is done behind it.
func TestBytes(t *testing.T) {
	every := make([]byte, 256)
	for i := range every {
		every[i] = byte(i)
	}
	d := fresh(t, 1000)
	appended(t, d, string(every), "\xff\xfe", "h\u00e9")
	told := d.Bytes()
	want := string(every) + "\xff\xfeh\xc3\xa9"
	wantStands(t, d, want, 0)
	d.Crash(0b001)
	if told != want {
		t.Errorf("Crash turned what was told: %q", told)
	}
	wantStands(t, d, string(every)+nothing(5), len(want))
	told = d.Bytes()
	d.Cut(10)
	appended(t, d, "other")
	if told != string(every)+nothing(5) {
		t.Errorf("Cut and Append turned what was told: %q", told)
	}
	wantStands(t, d, string(every[:10])+"other", 10)
}

// TestApart (P11.1, P11.2): what is done to one disk changes nothing of another one.
func TestApart(t *testing.T) {
	a, b := fresh(t, 10), fresh(t, 10)
	appended(t, a, "aa", "bb")
	appended(t, b, "cc", "dd")
	a.Hold()
	b.Sync()
	wantStands(t, a, "aabb", 0)
	wantStands(t, b, "ccdd", 4)
	a.Crash(0)
	appended(t, b, "ee")
	wantStands(t, a, nothing(4), 4)
	wantStands(t, b, "ccddee", 4)
	b.Cut(1)
	wantStands(t, a, nothing(4), 4)
	wantStands(t, b, "c", 1)
}

// model has its blocks in a plain list, each with whether it is synced.
type model struct {
	room   int
	held   bool
	blocks []block
}

// block is one of the model's.
type block struct {
	bytes  string
	synced bool
}

func (m *model) bytes() (out string) {
	for _, b := range m.blocks {
		out += b.bytes
	}
	return out
}

func (m *model) synced() (out int) {
	for _, b := range m.blocks {
		if b.synced {
			out += len(b.bytes)
		}
	}
	return out
}

func (m *model) append(s string) api.Errno {
	if len(m.bytes())+len(s) > m.room {
		return api.ErrFull
	}
	m.blocks = append(m.blocks, block{s, false})
	return api.OK
}

func (m *model) sync() {
	if m.held {
		return
	}
	for i := range m.blocks {
		m.blocks[i].synced = true
	}
}

func (m *model) crash(bits uint64) {
	k := 0
	for i, b := range m.blocks {
		if b.synced {
			continue
		}
		if k > 63 || bits&(1<<uint(k)) == 0 {
			m.blocks[i].bytes = nothing(len(b.bytes))
		}
		k++
	}
	m.held = false
	m.sync()
}

func (m *model) cut(size int) api.Errno {
	all := m.bytes()
	if size < 0 || size > len(all) {
		return api.ErrArg
	}
	m.blocks = []block{{all[:size], true}}
	m.held = false
	return api.OK
}

// script makes calls, wrong ones among them; the more seldom it makes others than Append, the more blocks are not synced.
type script struct {
	chance       *rand.Rand
	room, seldom int
}

func (x script) text() string {
	out := make([]byte, x.chance.Intn(1+x.chance.Intn(1+x.room/8)))
	for i := range out {
		out[i] = byte(x.chance.Intn(256))
	}
	return string(out)
}

func (x script) bits() uint64 {
	some := []uint64{0, math.MaxUint64, 1, 1 << 63, x.chance.Uint64(), x.chance.Uint64(), uint64(x.chance.Intn(16))}
	return some[x.chance.Intn(len(some))]
}

func (x script) size(there int) int {
	wrong := []int{-1, there + 1, math.MinInt, math.MaxInt}
	if x.chance.Intn(3) == 0 {
		return wrong[x.chance.Intn(len(wrong))]
	}
	return there - x.chance.Intn(1+min(there, 1+x.chance.Intn(1+there)))
}

// does has one call done to both; it tells which, and what was told.
func (x script) does(t *testing.T, d *Disk, m *model) (int, api.Errno) {
	t.Helper()
	call, got, want := min(x.chance.Intn(x.seldom), 5), api.OK, api.OK
	switch call {
	case 0:
		d.Sync()
		m.sync()
	case 1:
		d.Hold()
		m.held = true
	case 2:
		bits := x.bits()
		d.Crash(bits)
		m.crash(bits)
	case 3:
		size := x.size(len(m.bytes()))
		got, want = d.Cut(size), m.cut(size)
	case 4:
		got, want = d.Append(""), m.append("")
	default:
		s := x.text()
		got, want = d.Append(s), m.append(s)
	}
	if got != want || d.Bytes() != m.bytes() || d.Synced() != m.synced() {
		t.Fatalf("call %d: %d, %q, %d; want %d, %q, %d", call, got, d.Bytes(), d.Synced(), want, m.bytes(), m.synced())
	}
	return call, got
}

// TestScripts (P11.1 to P11.3): long scripts of all calls, answer by answer as the chapter's words do.
func TestScripts(t *testing.T) {
	chance := rand.New(rand.NewSource(11))
	var done, refused [6]int
	above := 0
	for range 250 {
		room := []int{1, 2, 9, 64, 300, 1000}[chance.Intn(6)]
		d, m := fresh(t, room), &model{room: room}
		x := script{chance, room, []int{12, 30, 400}[chance.Intn(3)]}
		for range 200 {
			call, e := x.does(t, d, m)
			done[call]++
			if e != api.OK {
				refused[call]++
			}
			if i := slices.IndexFunc(m.blocks, func(b block) bool { return !b.synced }); i >= 0 && len(m.blocks)-i > 64 {
				above++
			}
		}
	}
	if slices.Min(done[:]) < 500 || refused[3] < 500 || refused[5] < 500 || above < 500 {
		t.Error("the scripts try too little:", done, refused, above)
	}
}
