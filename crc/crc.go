// Package crc is layer 2: CRC-32C, by a table of sixteen, put together of
// parts, and as a seal of sectors. See shared/doc/02-crc.md.
package crc

// polynomial is added without carry to a register that loses a bit by a step.
const polynomial = 0x82F63B78

// nibbles says what four steps with bits 0 make of a register of 0 to 15.
var nibbles = [16]uint32{
	0x00000000, 0x105EC76F, 0x20BD8EDE, 0x30E349B1,
	0x417B1DBC, 0x5125DAD3, 0x61C69362, 0x7198540D,
	0x82F63B78, 0x92A8FC17, 0xA24BB5A6, 0xB21572C9,
	0xC38D26C4, 0xD3D3E1AB, 0xE330A81A, 0xF36E6F75,
}

// Sum is the sum of b.
func Sum(b []byte) uint32 {
	return On(0, b)
}

// On is the sum of some bytes, and b behind them, if sum is that of those bytes.
func On(sum uint32, b []byte) uint32 {
	register := ^sum
	for _, x := range b {
		register ^= uint32(x)
		// Two nibbles a byte: what is shifted out says which line of the table
		// the rest is added to.
		for range 2 {
			register = nibbles[register&15] ^ register>>4
		}
	}
	return ^register
}

// Nibble is what four steps with bits 0 make of a register of i.
func Nibble(i int) uint32 {
	if i < 0 || i >= len(nibbles) {
		return 0
	}
	return nibbles[i]
}
