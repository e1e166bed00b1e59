package crc

import (
	"hash/crc32"
	"math"
	"strings"
	"testing"
)

// texts: ordinary ones, and the edges: empty, one byte, zero bytes, all byte values, bytes that are no UTF-8, long ones.
func texts() []string {
	var all strings.Builder
	for b := range 256 {
		all.WriteByte(byte(b))
	}
	return []string{
		"", "a", "\x00", "\xff", "\x80", "abc", "123456789", "\xff\xfe\xc3(", "größe, 日本",
		strings.Repeat("\x00", 5), "abc\x00\x00", strings.Repeat("\xff", 32),
		all.String(), text(1000), text(4096),
	}
}

// text has many bytes, by a rule that repeats late.
func text(many int) string {
	bytes := make([]byte, many)
	x := uint32(1)
	for i := range bytes {
		x = x*1664525 + 1013904223
		bytes[i] = byte(x >> 24)
	}
	return string(bytes)
}

// sums: values of a and b for Join, which may be any, not only sums that were told.
func sums() []uint32 {
	return []uint32{0, 1, 5, 0x80000000, 0xedb88320, 0xcbf43926, 0xdeadbeef, math.MaxUint32}
}

// zeros is P1.2's way spelt bit by bit, apart from the program's: a through many zero bytes.
func zeros(a uint32, many int) uint32 {
	for i := 0; i < many*8; i++ {
		if a%2 == 1 {
			a = a/2 ^ 0xedb88320
		} else {
			a /= 2
		}
	}
	return a
}

// TestSumKnown (P1.1): sums that are known.
func TestSumKnown(t *testing.T) {
	known := []struct {
		text string
		sum  uint32
	}{
		{"123456789", 0xcbf43926}, // the chapter's example
		{"", 0},
		{"a", 0xe8b7be43},
		{"abc", 0x352441c2},
		{"\x00", 0xd202ef8d},
		{"\xff", 0xff000000},
		{strings.Repeat("\x00", 32), 0x190a55ad},
		{strings.Repeat("\xff", 32), 0xff6cab0b},
		{"The quick brown fox jumps over the lazy dog", 0x414fa339},
	}
	for _, k := range known {
		if got := Sum(k.text); got != k.sum {
			t.Errorf("Sum(%q) = %08x, want %08x", k.text, got, k.sum)
		}
		if !Check(k.text, k.sum) {
			t.Errorf("Check(%q, %08x) = false", k.text, k.sum)
		}
	}
}

// TestSumLibrary (P1.1): the chapter's sum is the one that the library calls IEEE.
func TestSumLibrary(t *testing.T) {
	for b := range 256 {
		s := string([]byte{byte(b)})
		if got, want := Sum(s), crc32.ChecksumIEEE([]byte(s)); got != want {
			t.Errorf("Sum(%q) = %08x, want %08x", s, got, want)
		}
	}
	for many := range 300 {
		s := text(many)
		if got, want := Sum(s), crc32.ChecksumIEEE([]byte(s)); got != want {
			t.Errorf("Sum of %d bytes = %08x, want %08x", many, got, want)
		}
	}
	for _, s := range append(texts(), text(4097), text(1<<20)) {
		if got, want := Sum(s), crc32.ChecksumIEEE([]byte(s)); got != want {
			t.Errorf("Sum of %d bytes = %08x, want %08x", len(s), got, want)
		}
	}
}

// TestCheckWrong (P1.1): a sum with any one bit turned is refused, and so is the sum of a text with any one bit turned.
func TestCheckWrong(t *testing.T) {
	for _, s := range texts() {
		sum := Sum(s)
		if !Check(s, sum) {
			t.Errorf("Check of %d bytes: its own sum is refused", len(s))
		}
		for bit := range 32 {
			if Check(s, sum^1<<bit) {
				t.Errorf("Check of %d bytes: taken with bit %d turned", len(s), bit)
			}
		}
		if Check(s, ^sum) || Check(s+"\x00", sum) || Check("\x00"+s, sum) {
			t.Errorf("Check of %d bytes: a wrong sum is taken", len(s))
		}
	}
	s := "123456789"
	for i := range len(s) * 8 {
		turned := []byte(s)
		turned[i/8] ^= 1 << (i % 8)
		if Check(string(turned), Sum(s)) {
			t.Errorf("Check: taken with bit %d of the text turned", i)
		}
	}
}

// TestJoinZeros (P1.2): a through many zero bytes, exclusive-or b, of any a and b.
func TestJoinZeros(t *testing.T) {
	for _, many := range []int{1, 2, 3, 4, 5, 8, 9, 100, 255, 256, 4095, 4096} {
		for _, a := range sums() {
			through := zeros(a, many)
			for _, b := range sums() {
				if got, want := Join(a, b, many), through^b; got != want {
					t.Errorf("Join(%08x, %08x, %d) = %08x, want %08x", a, b, many, got, want)
				}
			}
		}
	}
	if got := Join(0x80, 0, 1); got != 0xedb88320 {
		t.Errorf("Join(80, 0, 1) = %08x, want the polynomial", got)
	}
}

// TestJoinBelowOne (P1.2): a alone, whatever b is.
func TestJoinBelowOne(t *testing.T) {
	for _, many := range []int{0, -1, -7, -4096, math.MinInt32, math.MinInt} {
		for _, a := range sums() {
			for _, b := range sums() {
				if got := Join(a, b, many); got != a {
					t.Errorf("Join(%08x, %08x, %d) = %08x, want %08x", a, b, many, got, a)
				}
			}
		}
	}
}

// TestJoinAbove (P1.2): of many above 4096 as of 4096, and not as of one less.
func TestJoinAbove(t *testing.T) {
	for _, many := range []int{4097, 4098, 5000, 8192, math.MaxInt32, 1 << 40, math.MaxInt} {
		for _, a := range sums() {
			for _, b := range sums() {
				if got, want := Join(a, b, many), zeros(a, 4096)^b; got != want {
					t.Errorf("Join(%08x, %08x, %d) = %08x, want %08x", a, b, many, got, want)
				}
			}
		}
	}
	if Join(1, 0, 4095) == Join(1, 0, 4096) {
		t.Error("Join: 4095 counts as 4096")
	}
}

// TestJoinTexts (P1.3): the sum of two texts is the Join of theirs.
func TestJoinTexts(t *testing.T) {
	for _, first := range append(texts(), text(4097), text(3*4096)) {
		for _, second := range texts() {
			if got, want := Join(Sum(first), Sum(second), len(second)), Sum(first+second); got != want {
				t.Errorf("%d bytes and %d bytes: %08x, want %08x", len(first), len(second), got, want)
			}
		}
	}
}

// TestJoinEveryCut (P1.3): wherever a text is cut, with a second part of at most 4096 bytes.
func TestJoinEveryCut(t *testing.T) {
	whole := text(600)
	for cut := range len(whole) + 1 {
		first, second := whole[:cut], whole[cut:]
		if got := Join(Sum(first), Sum(second), len(second)); got != Sum(whole) {
			t.Errorf("cut at %d: %08x, want %08x", cut, got, Sum(whole))
		}
	}
}

// TestJoinTooLong (P1.3): a second text of 4096 bytes joins; of 4097 bytes it need not, and by P1.2 does not.
func TestJoinTooLong(t *testing.T) {
	first := "123456789"
	for _, many := range []int{4095, 4096, 4097} {
		second := text(many)
		joins := Join(Sum(first), Sum(second), many) == Sum(first+second)
		if joins != (many <= 4096) {
			t.Errorf("a second text of %d bytes: joins is %v", many, joins)
		}
	}
}
