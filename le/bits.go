package le

import "thatch/api"

// Bits is a row of n bits: bit i is bit i modulo 8 of byte i / 8. Those of the
// last byte that are behind bit n - 1 are never set.
type Bits struct {
	n     int
	bytes []byte
}

// isRow tells whether a row of bits may have n of them.
func isRow(n int) bool {
	return n >= 0 && n <= mostRoom
}

// packed tells how many bytes n bits have.
func packed(n int) int {
	return (n + 7) / 8
}

// NewBits makes n bits that are not set; nil, if there is no such row.
func NewBits(n int) *Bits {
	if !isRow(n) {
		return nil
	}
	return &Bits{n: n, bytes: make([]byte, packed(n))}
}

// there tells whether there is a bit i.
func (b *Bits) there(i int) bool {
	return b != nil && i >= 0 && i < b.n
}

// Set makes bit i so, and tells whether it was another one.
func (b *Bits) Set(i int, is bool) bool {
	if !b.there(i) || b.Has(i) == is {
		return false
	}
	b.bytes[i/8] ^= 1 << (i % 8)
	return true
}

// Has tells whether bit i is set.
func (b *Bits) Has(i int) bool {
	return b.there(i) && b.bytes[i/8]>>(i%8)&1 == 1
}

// Count tells how many bits are set.
func (b *Bits) Count() int {
	if b == nil {
		return 0
	}
	n := 0
	for i := range b.n {
		if b.Has(i) {
			n++
		}
	}
	return n
}

// First answers the first bit from a place on that is so; -1, if there is none.
func (b *Bits) First(is bool, from int) int {
	if b == nil {
		return -1
	}
	for i := max(from, 0); i < b.n; i++ {
		if b.Has(i) == is {
			return i
		}
	}
	return -1
}

// Pack answers the bits' bytes.
func (b *Bits) Pack() []byte {
	if b == nil {
		return nil
	}
	return append([]byte(nil), b.bytes...)
}

// Unpack makes n bits of their bytes.
func Unpack(n int, b []byte) (*Bits, api.Errno) {
	if !isRow(n) {
		return nil, api.ErrArg
	}
	if len(b) != packed(n) {
		return nil, api.ErrCode
	}
	// A row has one content and one only: were bits behind the last one let be,
	// two texts would say the same.
	if n%8 != 0 && b[n/8]>>(n%8) != 0 {
		return nil, api.ErrCode
	}
	return &Bits{n: n, bytes: append([]byte(nil), b...)}, api.OK
}
