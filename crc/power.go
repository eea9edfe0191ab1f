package crc

// matrix is what so many steps with bits 0 make of a register: row i is what
// they make of one in which bit i alone is set. (A step adds nothing of its
// own, so that the rows say it of every register.)
type matrix [32]uint32

// step is one step with a bit 0.
func step() matrix {
	var m matrix
	m[0] = polynomial
	for i := range 31 {
		m[i+1] = 1 << i
	}
	return m
}

// of is what the steps of m make of a register.
func (m matrix) of(register uint32) uint32 {
	var sum uint32
	for i := range 32 {
		if register>>i&1 == 1 {
			sum ^= m[i]
		}
	}
	return sum
}

// twice is twice as many steps as m.
func (m matrix) twice() matrix {
	var t matrix
	for i := range 32 {
		t[i] = m.of(m[i])
	}
	return t
}

// pass is what n bytes 0 make of a register; n below 0 counts as 0. The steps
// are doubled, so that the greatest n takes no longer than 64 doublings.
func pass(register uint32, n int) uint32 {
	power := step()
	for range 3 {
		power = power.twice()
	}
	for ; n > 0; n /= 2 {
		if n%2 == 1 {
			register = power.of(register)
		}
		power = power.twice()
	}
	return register
}

// Zeros is the sum of some bytes, and n bytes 0 behind them, if sum is that of
// those bytes.
func Zeros(sum uint32, n int) uint32 {
	return ^pass(^sum, n)
}

// Join is the sum of two texts, one behind the other, if a and b are theirs,
// and the second one has n bytes. What the turned bits at the beginning and at
// the end add is in b already: a is passed on as it is.
func Join(a, b uint32, n int) uint32 {
	return pass(a, n) ^ b
}
