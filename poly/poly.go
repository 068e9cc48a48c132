// Package poly is layer 1, sums of bytes (CRC32C): see shared/doc/01-poly.md.
package poly

// halves are the sums of the sixteen half bytes: what four halvings make of each.
func halves() [16]uint32 {
	return [16]uint32{
		0x00000000, 0x105ec76f, 0x20bd8ede, 0x30e349b1,
		0x417b1dbc, 0x5125dad3, 0x61c69362, 0x7198540d,
		0x82f63b78, 0x92a8fc17, 0xa24bb5a6, 0xb21572c9,
		0xc38d26c4, 0xd3d3e1ab, 0xe330a81a, 0xf36e6f75,
	}
}

// Sum is the sum of bytes.
func Sum(b []byte) uint32 {
	return Over(0, b)
}

// Over goes on from a sum with each of the bytes, in order.
func Over(s uint32, b []byte) uint32 {
	sums := halves()
	// A sum is turned behind each byte and ahead of the next one: between two bytes the turns undo each other.
	s = ^s
	for _, x := range b {
		s ^= uint32(x)
		s = s>>4 ^ sums[s&15]
		s = s>>4 ^ sums[s&15]
	}
	return ^s
}
