package crc_test

import (
	"bytes"
	"math"
	"testing"

	"thatch/api"
	"thatch/crc"
)

// stepped is one step of a register with a bit, as the document words it.
func stepped(register, bit uint32) uint32 {
	if register&1 != bit {
		return register>>1 ^ 0x82F63B78
	}
	return register >> 1
}

// plainOn is a sum gone on with b, bit by bit.
func plainOn(sum uint32, b []byte) uint32 {
	register := ^sum
	for _, x := range b {
		for i := range 8 {
			register = stepped(register, uint32(x)>>i&1)
		}
	}
	return ^register
}

// plainSum is the sum of b, bit by bit.
func plainSum(b []byte) uint32 {
	register := uint32(math.MaxUint32)
	for _, x := range b {
		for i := range 8 {
			register = stepped(register, uint32(x)>>i&1)
		}
	}
	return ^register
}

// some is n bytes that are the same each time.
func some(n int, seed byte) []byte {
	b := make([]byte, n)
	x := uint32(seed)*2654435761 + 12345
	for i := range b {
		x = x*1664525 + 1013904223
		b[i] = byte(x >> 24)
	}
	return b
}

// sums are sums of all sorts.
func sums() []uint32 {
	l := []uint32{0, 1, 7, 0x80000000, 0x7FFFFFFF, 0xFFFFFFFE, math.MaxUint32, 0x82F63B78, ^uint32(0x82F63B78)}
	for i := range byte(8) {
		l = append(l, plainSum(some(int(i), i)))
	}
	return l
}

// P2.1: sums that are known.
func TestSum(t *testing.T) {
	rising := make([]byte, 32)
	for i := range rising {
		rising[i] = byte(i)
	}
	for _, c := range []struct {
		b    []byte
		want uint32
	}{
		{nil, 0},
		{[]byte{}, 0},
		{[]byte("a"), 0xC1D04330},
		{[]byte("123456789"), 0xE3069283},
		{make([]byte, 32), 0x8A9136AA},
		{bytes.Repeat([]byte{0xFF}, 32), 0x62A8AB43},
		{rising, 0x46DD794E},
	} {
		if got := crc.Sum(c.b); got != c.want {
			t.Errorf("%x: %x, not %x", c.b, got, c.want)
		}
	}
}

// P2.1: sums of all bytes, and of many, are those that the bits' steps make.
func TestSumPlain(t *testing.T) {
	for x := range 256 {
		b := []byte{byte(x)}
		if crc.Sum(b) != plainSum(b) {
			t.Errorf("byte %x: %x", x, crc.Sum(b))
		}
		for _, sum := range sums() {
			if crc.On(sum, b) != plainOn(sum, b) {
				t.Errorf("%x on with byte %x: %x", sum, x, crc.On(sum, b))
			}
		}
	}
	for _, n := range []int{2, 3, 4, 5, 15, 16, 17, 124, 128, 1000, 65537} {
		if b := some(n, 3); crc.Sum(b) != plainSum(b) || crc.On(0, b) != plainSum(b) {
			t.Errorf("%d bytes: %x", n, crc.Sum(b))
		}
	}
}

// P2.1: gone on with nothing, and with the rest.
func TestOn(t *testing.T) {
	b := some(70, 1)
	for _, sum := range sums() {
		if crc.On(sum, nil) != sum || crc.On(sum, []byte{}) != sum {
			t.Errorf("%x on with nothing: %x", sum, crc.On(sum, nil))
		}
	}
	for i := range len(b) + 1 {
		if got := crc.On(crc.Sum(b[:i]), b[i:]); got != plainSum(b) {
			t.Errorf("cut at %d: %x", i, got)
		}
	}
}

// P2.1: the table of sixteen.
func TestNibble(t *testing.T) {
	for i := range 16 {
		want := uint32(i)
		for range 4 {
			want = stepped(want, 0)
		}
		if crc.Nibble(i) != want {
			t.Errorf("%d: %x, not %x", i, crc.Nibble(i), want)
		}
	}
	for _, i := range []int{math.MinInt, -16, -1, 16, 17, 32, 256, 1 << 32, math.MaxInt} {
		if crc.Nibble(i) != 0 {
			t.Errorf("%d: %x", i, crc.Nibble(i))
		}
	}
}

// P2.2: bytes 0, so many as there are none of, and more than can be gone through.
func TestZeros(t *testing.T) {
	for _, sum := range sums() {
		for n := range 40 {
			if got := crc.Zeros(sum, n); got != plainOn(sum, make([]byte, n)) {
				t.Errorf("%x on with %d: %x", sum, n, got)
			}
		}
		for _, n := range []int{127, 128, 255, 4096, 65535} {
			if got := crc.Zeros(sum, n); got != plainOn(sum, make([]byte, n)) {
				t.Errorf("%x on with %d: %x", sum, n, got)
			}
		}
		for _, n := range []int{-1, -2, -128, math.MinInt} {
			if got := crc.Zeros(sum, n); got != sum {
				t.Errorf("%x on with %d: %x", sum, n, got)
			}
		}
		wantPeriod(t, sum)
	}
}

// wantPeriod wants that 2^31 - 1 steps lead back to where they began: the
// polynomial, without its factor x + 1, has no shorter way round, and that
// factor's is 1.
func wantPeriod(t *testing.T, sum uint32) {
	t.Helper()
	const round = 1<<31 - 1
	if crc.Zeros(sum, round) != sum {
		t.Errorf("%x: no round of 2^31 - 1", sum)
	}
	for _, n := range []int{math.MaxInt, math.MaxInt - 1, 1 << 62, 1<<40 + 3, 1 << 31} {
		if got, want := crc.Zeros(sum, n), crc.Zeros(sum, n%round); got != want {
			t.Errorf("%x on with %d: %x, not %x", sum, n, got, want)
		}
	}
}

// P2.2: two texts.
func TestJoin(t *testing.T) {
	for _, c := range [][2]int{{0, 0}, {0, 1}, {1, 0}, {1, 1}, {2, 7}, {7, 2}, {124, 4}, {3, 1000}, {1000, 3}, {4096, 65536}} {
		a, b := some(c[0], 1), some(c[1], 2)
		want := plainSum(append(bytes.Clone(a), b...))
		if got := crc.Join(crc.Sum(a), crc.Sum(b), len(b)); got != want {
			t.Errorf("%d and %d bytes: %x, not %x", c[0], c[1], got, want)
		}
	}
	for _, sum := range sums() {
		if crc.Join(sum, 0, 0) != sum || crc.Join(0, sum, 9) != sum {
			t.Errorf("%x, with nothing", sum)
		}
		for n := range 20 {
			if got, want := crc.Join(sum, plainSum(make([]byte, n)), n), crc.Zeros(sum, n); got != want {
				t.Errorf("%x with %d bytes 0: %x, not %x", sum, n, got, want)
			}
		}
	}
}

// P2.2: a length below 0 is taken as 0, the greatest one ends.
func TestJoinLengths(t *testing.T) {
	for _, n := range []int{-1, math.MinInt} {
		if crc.Join(0x12345678, 0, n) != 0x12345678 {
			t.Errorf("%d bytes: %x", n, crc.Join(0x12345678, 0, n))
		}
	}
	if crc.Join(5, 9, math.MaxInt) != crc.Join(5, 9, math.MaxInt%(1<<31-1)) {
		t.Error("the longest text")
	}
}

// P2.3: sealed sectors.
func TestSeal(t *testing.T) {
	for n := range 125 {
		b := some(n, 9)
		s, e := crc.Seal(b)
		if e != api.OK || len(s) != api.SectorBytes || !crc.Check(s) {
			t.Fatalf("%d bytes: %x %d", n, s, e)
		}
		rest := append(bytes.Clone(b), make([]byte, 124-n)...)
		sum := plainSum(rest)
		if !bytes.Equal(s[4:], rest) || !bytes.Equal(s[:4], []byte{byte(sum), byte(sum >> 8), byte(sum >> 16), byte(sum >> 24)}) {
			t.Errorf("%d bytes: %x", n, s)
		}
	}
	for _, n := range []int{125, 128, 4096} {
		if s, e := crc.Seal(make([]byte, n)); e != api.ErrLong || len(s) != 0 {
			t.Errorf("%d bytes: %x %d", n, s, e)
		}
	}
	none, e := crc.Seal(nil)
	if empty, _ := crc.Seal([]byte{}); e != api.OK || !bytes.Equal(none, empty) {
		t.Errorf("nothing: %x %x %d", none, empty, e)
	}
}

// P2.3: what is no sealed sector.
func TestCheck(t *testing.T) {
	s, _ := crc.Seal([]byte("superblock"))
	for n := range 200 {
		b := append(bytes.Clone(s), make([]byte, 100)...)[:n]
		if crc.Check(b) != (n == api.SectorBytes) {
			t.Errorf("%d bytes: %t", n, crc.Check(b))
		}
	}
	// A text's right sum ahead of it alone does not make a sector of both.
	for _, n := range []int{0, 1, 9, 123, 125, 128, 252} {
		b := some(n, 4)
		sum := plainSum(b)
		if crc.Check(append([]byte{byte(sum), byte(sum >> 8), byte(sum >> 16), byte(sum >> 24)}, b...)) {
			t.Errorf("the sum, and %d bytes", n)
		}
	}
	if crc.Check(nil) || crc.Check(make([]byte, api.SectorBytes)) {
		t.Error("what is none")
	}
	turned := bytes.Clone(s)
	turned[0], turned[3] = turned[3], turned[0]
	if crc.Check(turned) {
		t.Error("the sum the other way round")
	}
}

// P2.4: up to four bytes in a row that are others, and each bit of the sum.
func TestBroken(t *testing.T) {
	s, _ := crc.Seal(some(124, 5))
	for bit := range 8 * api.SectorBytes {
		b := bytes.Clone(s)
		b[bit/8] ^= 1 << (bit % 8)
		if crc.Check(b) {
			t.Errorf("bit %d is another one", bit)
		}
	}
	turn := some(4096, 6)
	for n := 1; n <= 4; n++ {
		for at := 4; at+n <= api.SectorBytes; at++ {
			for k := range 64 {
				b := bytes.Clone(s)
				for i := range n {
					b[at+i] ^= turn[(k*61+at*7+i)%len(turn)]
				}
				if !bytes.Equal(b, s) && crc.Check(b) {
					t.Errorf("%d bytes from %d on are others", n, at)
				}
			}
		}
	}
}

// P2.4: sums of parts make the sum of all, in any parting.
func TestParts(t *testing.T) {
	b := some(48, 7)
	want := plainSum(b)
	for i := range len(b) + 1 {
		for k := i; k <= len(b); k++ {
			x, y, z := crc.Sum(b[:i]), crc.Sum(b[i:k]), crc.Sum(b[k:])
			if crc.Join(crc.Join(x, y, k-i), z, len(b)-k) != want || crc.Join(x, crc.Join(y, z, len(b)-k), len(b)-i) != want || crc.On(crc.Join(x, y, k-i), b[k:]) != want {
				t.Errorf("cut at %d and %d", i, k)
			}
		}
	}
	var all uint32
	for _, x := range b {
		all = crc.Join(all, crc.Sum([]byte{x}), 1)
	}
	if all != want {
		t.Errorf("byte by byte: %x", all)
	}
}

// R3: what is handed in is not changed, nor the room behind it, and answers are
// new memory.
func TestNothingShared(t *testing.T) {
	room := some(200, 8)
	was := bytes.Clone(room)
	crc.Sum(room[:10])
	crc.On(5, room[:10])
	one, _ := crc.Seal(room[:10])
	two, _ := crc.Seal(room[:10])
	crc.Check(room[:api.SectorBytes])
	if !bytes.Equal(room, was) {
		t.Error("changed")
	}
	clear(one[:cap(one)])
	if !crc.Check(two) || !bytes.Equal(room, was) {
		t.Error("shared")
	}
	full := some(124, 8)
	s, _ := crc.Seal(full)
	clear(full)
	if !crc.Check(s) {
		t.Error("kept")
	}
}
