package sha

import (
	"crypto/sha256"
	"encoding"
	"encoding/binary"
	"encoding/hex"
	"math"
	"math/big"
	"strings"
	"testing"
)

// text has many bytes, by a rule that repeats late.
func text(many int) string {
	bytes := make([]byte, many)
	x := uint32(1)
	for i := range bytes {
		x = x*1664525 + 1013904223
		bytes[i] = byte(x >> 24)
	}
	return string(bytes)
}

// states: Start's, and any other: zeros, all bits, one bit alone, numbers by a rule.
func states() [][8]uint32 {
	out := [][8]uint32{Start(), {}, {1, 2, 3, 4, 5, 6, 7, 8}}
	var full [8]uint32
	for i := range full {
		full[i] = math.MaxUint32
		var low, high [8]uint32
		low[i], high[i] = 1, 1<<31
		out = append(out, low, high)
	}
	out = append(out, full)
	bytes := text(32 * 8)
	for at := 0; at < len(bytes); at += 32 {
		out = append(out, words([]byte(bytes[at:])))
	}
	return out
}

// blockTexts: blocks of 64 bytes, of zeros, of all bits, with one bit alone at each place, and by a rule.
func blockTexts() []string {
	out := []string{strings.Repeat("\x00", 64), strings.Repeat("\xff", 64), strings.Repeat("x", 64), "abc" + Pad(3)}
	for bit := range 64 * 8 {
		var one [64]byte
		one[bit/8] = 1 << (bit % 8)
		out = append(out, string(one[:]))
	}
	bytes := text(64 * 8)
	for at := 0; at < len(bytes); at += 64 {
		out = append(out, bytes[at:at+64])
	}
	return out
}

// words is the first eight numbers of four bytes.
func words(bytes []byte) (out [8]uint32) {
	for i := range out {
		out[i] = binary.BigEndian.Uint32(bytes[4*i:])
	}
	return out
}

// libraryBlock is the state behind a block as the library works it out: it takes up a digest under way from bytes, and gives it out again.
func libraryBlock(t *testing.T, state [8]uint32, block string) [8]uint32 {
	t.Helper()
	const name = "sha\x03"
	kept := []byte(name)
	for _, x := range state {
		kept = binary.BigEndian.AppendUint32(kept, x)
	}
	kept = append(kept, make([]byte, 64+8)...)
	digest := sha256.New()
	if err := digest.(encoding.BinaryUnmarshaler).UnmarshalBinary(kept); err != nil {
		t.Fatal(err)
	}
	digest.Write([]byte(block))
	after, err := digest.(encoding.BinaryMarshaler).MarshalBinary()
	if err != nil {
		t.Fatal(err)
	}
	return words(after[len(name):])
}

// firstPrimes are the first many of them.
func firstPrimes(many int) (out []int64) {
	for n := int64(2); len(out) < many; n++ {
		if big.NewInt(n).ProbablyPrime(0) {
			out = append(out, n)
		}
	}
	return out
}

// rootFraction is the first 32 bits of the fraction of n's root of that degree, by halving.
func rootFraction(n, degree int64) uint32 {
	scaled := new(big.Int).Lsh(big.NewInt(n), uint(32*degree))
	low, high := big.NewInt(0), big.NewInt(1<<50)
	for new(big.Int).Sub(high, low).Cmp(big.NewInt(1)) > 0 {
		mid := new(big.Int).Rsh(new(big.Int).Add(low, high), 1)
		if new(big.Int).Exp(mid, big.NewInt(degree), nil).Cmp(scaled) <= 0 {
			low = mid
		} else {
			high = mid
		}
	}
	return uint32(low.Uint64())
}

// TestSumKnown (P3.1): the chapter's example, and FIPS 180-4's own, with the further ones that go with it.
func TestSumKnown(t *testing.T) {
	known := []struct{ text, want string }{
		{"", "e3b0c44298fc1c149afbf4c8996fb92427ae41e4649b934ca495991b7852b855"}, // the chapter's example
		{"abc", "ba7816bf8f01cfea414140de5dae2223b00361a396177a9cb410ff61f20015ad"},
		{"abcdbcdecdefdefgefghfghighijhijkijkljklmklmnlmnomnopnopq", "248d6a61d20638b8e5c026930c3e6039a33ce45964ff2167f6ecedd419db06c1"},
		{"abcdefghbcdefghicdefghijdefghijkefghijklfghijklmghijklmnhijklmnoijklmnopjklmnopqklmnopqrlmnopqrsmnopqrstnopqrstu", "cf5b16a778af8380036ce59e7b0492370b249b11e8f07a51afac45037afee9d1"},
		{strings.Repeat("a", 1000000), "cdc76e5c9914fb9281a1c7e284d73e67f1809a48a497200e046d39ccc7112cd0"},
		{"\xbd", "68325720aabd7c82f30f554b313d0570c95accbb7dc4b5aae11204c08ffe732b"},
		{"\xc9\x8c\x8e\x55", "7abc22c0ae5af26ce93dbb94433a0e0b2e119d014f8e7f65bd56c61ccccd9504"},
		{strings.Repeat("\x00", 55), "02779466cdec163811d078815c633f21901413081449002f24aa3e80f0b88ef7"},
		{strings.Repeat("\x00", 56), "d4817aa5497628e7c77e6b606107042bbba3130888c5f47a375e6179be789fbb"},
		{strings.Repeat("\x00", 64), "f5a5fd42d16a20302798ef6ed309979b43003d2320d9f0e8ea9831a92759fb4b"},
	}
	for _, k := range known {
		if got := Hex(Sum(k.text)); got != k.want {
			t.Errorf("Hex(Sum of %d bytes) = %s, want %s", len(k.text), got, k.want)
		}
	}
}

// TestSumLibrary (P3.1): as the library's, at every number of bytes of the first blocks (so at 0, 55, 56, 63, 64, 65), each byte, and long texts.
func TestSumLibrary(t *testing.T) {
	var all []string
	for many := range 300 {
		all = append(all, text(many), strings.Repeat("\x00", many), strings.Repeat("\xff", many))
	}
	for b := range 256 {
		all = append(all, string([]byte{byte(b)}))
	}
	all = append(all, "größe, 日本", "\xff\xfe\xc3(", text(4096), text(1<<20-9), text(1<<20-8), text(1<<20+1))
	for _, s := range all {
		want := sha256.Sum256([]byte(s))
		if got := Sum(s); got != string(want[:]) {
			t.Errorf("Sum of %d bytes = %x, want %x", len(s), got, want)
		}
	}
}

// TestSumTold (P3.1, P4): asked again it is the same; a text with a bit turned, or a byte more, has another one.
func TestSumTold(t *testing.T) {
	s := text(100)
	want := Sum(s)
	for bit := range len(s) * 8 {
		turned := []byte(s)
		turned[bit/8] ^= 1 << (bit % 8)
		if Sum(string(turned)) == want {
			t.Errorf("Sum is the same with bit %d turned", bit)
		}
	}
	if Sum(s+"\x00") == want || Sum("\x00"+s) == want || Sum(s+Pad(100)) == want {
		t.Error("Sum is the same of a longer text")
	}
	if Sum(s) != want {
		t.Error("Sum asked again is another one")
	}
}

// TestStart (P3.1): the eight numbers, as the chapter writes them, and as FIPS 180-4 makes them: of the first primes' second roots.
func TestStart(t *testing.T) {
	want := [8]uint32{0x6a09e667, 0xbb67ae85, 0x3c6ef372, 0xa54ff53a, 0x510e527f, 0x9b05688c, 0x1f83d9ab, 0x5be0cd19}
	if got := Start(); got != want {
		t.Errorf("Start() = %08x, want %08x", got, want)
	}
	for i, p := range firstPrimes(8) {
		if got := rootFraction(p, 2); got != Start()[i] {
			t.Errorf("Start()[%d] = %08x, want %08x", i, Start()[i], got)
		}
	}
}

// TestStartOwn (P3.1, P3): who writes into what Start answered changes no later answer.
func TestStartOwn(t *testing.T) {
	first := Start()
	first[0], first[7] = 0, 0
	if Start() == first || Start()[0] != 0x6a09e667 {
		t.Error("Start answers what was written into an earlier answer")
	}
}

// TestThirdRoots (P3.2): K is of the first 64 primes' third roots.
func TestThirdRoots(t *testing.T) {
	for i, p := range firstPrimes(64) {
		if want := rootFraction(p, 3); thirdRoots[i] != want {
			t.Errorf("K[%d] = %08x, want %08x", i, thirdRoots[i], want)
		}
	}
}

// TestBlockKnown (P3.2): the states behind FIPS 180-4's example of one block, and behind the first of its example of two.
func TestBlockKnown(t *testing.T) {
	known := []struct {
		block string
		want  [8]uint32
	}{
		{"abc\x80" + strings.Repeat("\x00", 59) + "\x18", [8]uint32{0xba7816bf, 0x8f01cfea, 0x414140de, 0x5dae2223, 0xb00361a3, 0x96177a9c, 0xb410ff61, 0xf20015ad}},
		{"abcdbcdecdefdefgefghfghighijhijkijkljklmklmnlmnomnopnopq\x80\x00\x00\x00\x00\x00\x00\x00", [8]uint32{0x85e655d6, 0x417a1795, 0x3363376a, 0x624cde5c, 0x76e09589, 0xcac5f811, 0xcc4b32c1, 0xf20e533a}},
	}
	for _, k := range known {
		if got, ok := Block(Start(), k.block); !ok || got != k.want {
			t.Errorf("Block(Start(), %q) = %08x, %v, want %08x", k.block, got, ok, k.want)
		}
	}
}

// TestBlockAnyState (P3.2): of any state, not Start's alone, and of any block, as the library works it out.
func TestBlockAnyState(t *testing.T) {
	for _, state := range states() {
		for _, block := range blockTexts() {
			want := libraryBlock(t, state, block)
			if got, ok := Block(state, block); !ok || got != want {
				t.Errorf("Block(%08x, %x) = %08x, %v, want %08x", state, block, got, ok, want)
			}
		}
	}
}

// TestBlockWrong (P3.2): of another number of bytes than 64 false, and zeros, whatever the state is.
func TestBlockWrong(t *testing.T) {
	for _, many := range []int{0, 1, 16, 32, 55, 56, 62, 63, 65, 66, 127, 128, 129, 192, 4096, 1 << 20} {
		for _, state := range states() {
			if got, ok := Block(state, text(many)); ok || got != ([8]uint32{}) {
				t.Errorf("Block(%08x, %d bytes) = %08x, %v, want zeros, false", state, many, got, ok)
			}
		}
	}
	if _, ok := Block(Start(), text(64)); !ok {
		t.Error("Block of 64 bytes is refused")
	}
}

// TestBlockLeaves (P3.2, P3): the state that is handed in stays as it was.
func TestBlockLeaves(t *testing.T) {
	state := Start()
	Block(state, text(64))
	Block(state, text(63))
	if state != Start() {
		t.Errorf("Block has written into the state: %08x", state)
	}
}

// TestPadKnown (P3.3): written out at the edges.
func TestPadKnown(t *testing.T) {
	zeros := func(many int) string { return strings.Repeat("\x00", many) }
	known := []struct {
		many uint64
		want string
	}{
		{0, "\x80" + zeros(55) + zeros(8)},
		{1, "\x80" + zeros(54) + zeros(7) + "\x08"},
		{3, "\x80" + zeros(52) + zeros(7) + "\x18"},
		{54, "\x80" + zeros(1) + zeros(6) + "\x01\xb0"},
		{55, "\x80" + zeros(6) + "\x01\xb8"},
		{56, "\x80" + zeros(63) + zeros(6) + "\x01\xc0"},
		{57, "\x80" + zeros(62) + zeros(6) + "\x01\xc8"},
		{63, "\x80" + zeros(56) + zeros(6) + "\x01\xf8"},
		{64, "\x80" + zeros(55) + zeros(6) + "\x02\x00"},
		{65, "\x80" + zeros(54) + zeros(6) + "\x02\x08"},
		{0x0011223344556677, "\x80" + "\x00\x89\x11\x9a\x22\xab\x33\xb8"},
		{1 << 60, "\x80" + zeros(55) + "\x80" + zeros(7)},
		{1<<61 - 1, "\x80" + zeros(56) + "\xff\xff\xff\xff\xff\xff\xff\xf8"},
		{1 << 61, "\x80" + zeros(55) + zeros(8)}, // 8 times that is 2^64
		{1<<61 + 1, "\x80" + zeros(54) + zeros(7) + "\x08"},
		{1<<61 + 56, "\x80" + zeros(63) + zeros(6) + "\x01\xc0"},
		{1 << 63, "\x80" + zeros(55) + zeros(8)},
		{math.MaxUint64 - 8, "\x80" + "\xff\xff\xff\xff\xff\xff\xff\xb8"},
		{math.MaxUint64 - 7, "\x80" + zeros(63) + "\xff\xff\xff\xff\xff\xff\xff\xc0"},
		{math.MaxUint64, "\x80" + zeros(56) + "\xff\xff\xff\xff\xff\xff\xff\xf8"},
	}
	for _, k := range known {
		if got := Pad(k.many); got != k.want {
			t.Errorf("Pad(%d) = %x, want %x", k.many, got, k.want)
		}
	}
}

// padZeros counts one by one the zeros that bring many bytes and the byte 128 to 56 modulo 64.
func padZeros(many uint64) (zeros int) {
	for (many%64+1+uint64(zeros))%64 != 56 {
		zeros++
	}
	return zeros
}

// padNumbers: all of the first blocks, and on both sides of every power of two and of the ends of blocks near it.
func padNumbers() (out []uint64) {
	for many := range uint64(300) {
		out = append(out, many, math.MaxUint64-many, 1<<61+many, 1<<61-1-many)
	}
	for bit := range 64 {
		for _, more := range []uint64{0, 1, 55, 56, 63, 64, 65} {
			out = append(out, 1<<bit+more, 1<<bit-more)
		}
	}
	return out
}

// TestPadRule (P3.3): the byte 128, no zero more than it needs, and 8 times many modulo 2^64, the highest byte first.
func TestPadRule(t *testing.T) {
	for _, many := range padNumbers() {
		want := append([]byte{128}, make([]byte, padZeros(many))...)
		want = binary.BigEndian.AppendUint64(want, many<<3)
		if got := Pad(many); got != string(want) {
			t.Errorf("Pad(%d) = %x, want %x", many, got, want)
		}
	}
}

// TestSumOfBlocks (P3.3): Sum is what Block tells from Start of s and its Pad, block by block.
func TestSumOfBlocks(t *testing.T) {
	for _, many := range []int{0, 1, 3, 54, 55, 56, 57, 63, 64, 65, 119, 120, 127, 128, 129, 1000, 4096} {
		s := text(many)
		state, padded := Start(), s+Pad(uint64(many))
		for at := 0; at < len(padded); at += 64 {
			next, ok := Block(state, padded[at:at+64])
			if !ok {
				t.Fatalf("Block at %d of %d bytes is refused", at, many)
			}
			state = next
		}
		var want []byte
		for _, x := range state {
			want = binary.BigEndian.AppendUint32(want, x)
		}
		if got := Sum(s); got != string(want) {
			t.Errorf("Sum of %d bytes = %x, want %x", many, got, want)
		}
	}
}

// TestHex (P3.3): each byte, alone and among others; of nothing nothing.
func TestHex(t *testing.T) {
	known := []struct{ s, want string }{
		{"", ""},
		{"\x00", "00"},
		{"\x09", "09"},
		{"\x0a", "0a"},
		{"\x0f", "0f"},
		{"\x10", "10"},
		{"\x9f", "9f"},
		{"\xf9", "f9"},
		{"\xff", "ff"},
		{"\x00\xff\x1a", "00ff1a"},
		{"abc", "616263"},
		{"日", "e697a5"},
	}
	for _, k := range known {
		if got := Hex(k.s); got != k.want {
			t.Errorf("Hex(%q) = %s, want %s", k.s, got, k.want)
		}
	}
	var all []byte
	for b := range 256 {
		one := []byte{byte(b)}
		all = append(all, one...)
		if got, want := Hex(string(one)), hex.EncodeToString(one); got != want {
			t.Errorf("Hex(%x) = %s, want %s", one, got, want)
		}
	}
	if got, want := Hex(string(all)), hex.EncodeToString(all); got != want {
		t.Errorf("Hex of all bytes = %s, want %s", got, want)
	}
}

// TestSizes (P3.4): Sum has 32 bytes; Pad comes to whole blocks, in at most 72 bytes.
func TestSizes(t *testing.T) {
	if Size != 32 {
		t.Errorf("Size is %d", Size)
	}
	for many := range 300 {
		if got := len(Sum(text(many))); got != 32 {
			t.Errorf("Sum of %d bytes has %d", many, got)
		}
	}
	for _, many := range padNumbers() {
		got := uint64(len(Pad(many)))
		if (many+got)%64 != 0 || got < 9 || got > 72 {
			t.Errorf("Pad(%d) has %d bytes", many, got)
		}
	}
}
