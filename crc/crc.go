// Package crc is layer 1, a checksum of 32 bits: see shared/doc/01-crc.md.
package crc

// poly is the polynomial, its bits turned round, as the bits of a byte are taken lowest first.
const poly = 0xedb88320

// longest is how many zero bytes Join goes through at most, so that it ends soon whatever it is given.
const longest = 4096

// Sum is the checksum of s.
func Sum(s string) (told uint32) {
	c := ^uint32(0)
	for i := range len(s) {
		c = step(c, s[i])
	}
	return ^c
}

// Join is the checksum of two texts, one behind the other, by their sums a and b; the second one has many bytes.
func Join(a, b uint32, many int) (told uint32) {
	if many < 1 {
		return a
	}
	c := a
	for range min(many, longest) {
		c = step(c, 0)
	}
	return c ^ b
}

// Check tells if sum is the checksum of s.
func Check(s string, sum uint32) (told bool) {
	return Sum(s) == sum
}

// step takes one byte into c.
func step(c uint32, b byte) uint32 {
	c ^= uint32(b)
	for range 8 {
		fell := c & 1
		c >>= 1
		if fell == 1 {
			c ^= poly
		}
	}
	return c
}
