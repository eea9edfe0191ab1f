package crc

import "thatch/api"

// sealBytes is how many bytes the sum takes of a sealed sector.
const sealBytes = 4

// Seal makes the sealed sector of b: its sum, b, and 0 behind it.
func Seal(b []byte) ([]byte, api.Errno) {
	if len(b) > api.SectorBytes-sealBytes {
		return nil, api.ErrLong
	}
	sector := make([]byte, api.SectorBytes)
	copy(sector[sealBytes:], b)
	sum := Sum(sector[sealBytes:])
	for i := range sealBytes {
		sector[i] = byte(sum >> (8 * i))
	}
	return sector, api.OK
}

// Check tells whether b is a sealed sector.
func Check(b []byte) bool {
	if len(b) != api.SectorBytes {
		return false
	}
	var sum uint32
	for i := range sealBytes {
		sum |= uint32(b[i]) << (8 * i)
	}
	return sum == Sum(b[sealBytes:])
}
