// Package le is layer 1: numbers as bytes, the lowest byte first, and rows of
// bits. See shared/doc/01-le.md.
package le

// mostRoom is the room of the greatest writer in bytes, and the longest row of bits.
const mostRoom = 65536

// isSize tells whether numbers of so many bytes can be put and got.
func isSize(size int) bool {
	switch size {
	case 1, 2, 4, 8:
		return true
	}
	return false
}
