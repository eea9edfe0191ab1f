package band_test

import (
	"bytes"
	"math"
	"testing"

	"thatch/api"
	"thatch/band"
	"thatch/crc"
)

func g(conv, seq, length, limit, cache int) api.Geom {
	return api.Geom{Conv: conv, Seq: seq, Len: length, Limit: limit, Cache: cache}
}

// small has 3 bands of 15 sectors, narrow 2 of 7.
var (
	small  = g(2, 6, 16, 3, 2)
	narrow = g(2, 4, 8, 2, 1)
)

// wholeGeoms are geometries that may be, at the edges too.
func wholeGeoms() []api.Geom {
	return []api.Geom{small, narrow, g(2, 4, 8, 4, 2), g(16, 128, 1024, 128, 126), g(16, 128, 1024, 128, 1), g(3, 6, 12, 3, 2), g(5, 9, 17, 3, 4), g(2, 58, 8, 2, 1), g(2, 5, 9, 2, 3)}
}

// brokenGeoms are geometries that may not be.
func brokenGeoms() []api.Geom {
	l := []api.Geom{{}, g(1, 8, 16, 3, 2), g(17, 8, 16, 3, 2), g(2, 3, 16, 2, 1), g(2, 8, 7, 3, 2), g(2, 8, 16, 1, 2), g(2, 8, 16, 3, 0), g(2, 8, 16, 3, 7), g(2, 59, 8, 2, 1)}
	for _, x := range []int{math.MinInt, -1, 0, 1 << 20, math.MaxInt} {
		l = append(l, g(x, 8, 16, 3, 2), g(2, x, 16, 3, 2), g(2, 8, x, 3, 2), g(2, 8, 16, x, 2), g(2, 8, 16, 3, x), g(x, x, x, x, x))
	}
	return l
}

// lenOf is how many sectors a band has, bandsOf how many bands there are.
func lenOf(x api.Geom) int { return x.Len - 1 }

func bandsOf(x api.Geom) int { return x.Seq - x.Cache - 1 }

// some is n sectors, all bytes of which are other ones than their neighbours, and
// none of which has bytes 0 alone.
func some(n, seed int) []byte {
	b := make([]byte, n*128)
	for i := range b {
		b[i] = byte(i*7 + i/128*3 + seed)
	}
	return b
}

// content is a band's content of a geometry.
func content(x api.Geom, seed int) []byte { return some(lenOf(x), seed) }

func put(at int, b []byte) api.Piece { return api.Piece{At: at, Bytes: b} }

func hole(at, n int) api.Piece { return api.Piece{At: at, N: n, Hole: true} }

// plainWith is a content with pieces that may be, byte by byte.
func plainWith(content []byte, l []api.Piece) []byte {
	b := append([]byte{}, content...)
	for _, x := range l {
		if x.Hole {
			x.Bytes = make([]byte, 128*x.N)
		}
		for i, c := range x.Bytes {
			b[128*x.At+i] = c
		}
	}
	return b
}

// low is the lowest bytes of a number, the lowest one first.
func low(size, n int) []byte {
	var b []byte
	for range size {
		b = append(b, byte(n))
		n >>= 8
	}
	return b
}

// labelParts are the bytes of a label's numbers, one by one.
func labelParts(t api.Label) [][]byte {
	return [][]byte{[]byte("LB"), low(4, t.Band), low(8, t.Upto), low(4, t.Sum)}
}

// sealed is the sealed sector of some bytes.
func sealed(t *testing.T, b []byte) []byte {
	t.Helper()
	sector, e := crc.Seal(b)
	if e != api.OK {
		t.Fatal(e)
	}
	return sector
}

// labelSector is a label's sector, whether that may be or not.
func labelSector(t *testing.T, x api.Label) []byte {
	t.Helper()
	return sealed(t, bytes.Join(labelParts(x), nil))
}

// wholeLabels are labels of a geometry that may be, at the edges too.
func wholeLabels(x api.Geom) []api.Label {
	var l []api.Label
	for _, b := range []int{0, bandsOf(x) / 2, bandsOf(x) - 1} {
		for _, upto := range []int{0, 1, 255, 256, 0x0102030405, 1 << 32, 1<<40 - 1, 1 << 40} {
			for _, sum := range []int{0, 1, 0x01020304, 1 << 31, 1<<32 - 2, 1<<32 - 1} {
				l = append(l, api.Label{Band: b, Upto: upto, Sum: sum})
			}
		}
	}
	return l
}

// brokenLabels are labels of a geometry that may not be: each by one number alone.
func brokenLabels(x api.Geom) []api.Label {
	var l []api.Label
	for _, b := range []int{math.MinInt, -1, bandsOf(x), bandsOf(x) + 1, 1 << 32, 1<<32 + 1, math.MaxInt} {
		l = append(l, api.Label{Band: b, Upto: 5, Sum: 7})
	}
	for _, upto := range []int{math.MinInt, -1, 1<<40 + 1, 1 << 41, math.MaxInt} {
		l = append(l, api.Label{Band: 0, Upto: upto, Sum: 7})
	}
	for _, sum := range []int{math.MinInt, -1, 1 << 32, 1<<32 + 1, math.MaxInt} {
		l = append(l, api.Label{Band: 0, Upto: 5, Sum: sum})
	}
	return l
}

// wantNoLabel wants that a sector is none of a label of a geometry.
func wantNoLabel(t *testing.T, what string, x api.Geom, sector []byte) {
	t.Helper()
	if got, e := band.Decode(x, sector); e != api.ErrCode || got != (api.Label{}) {
		t.Errorf("%s: %v %d", what, got, e)
	}
}

// numbers are numbers that look like chance, the same ones each time.
func numbers(seed uint64) func(below int) int {
	x := seed*0x9E3779B97F4A7C15 + 1
	return func(below int) int {
		x ^= x << 13
		x ^= x >> 7
		x ^= x << 17
		return int(x>>11) % below
	}
}
