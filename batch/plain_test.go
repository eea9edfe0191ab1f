package batch_test

import (
	"bytes"
	"iter"
	"math"
	"slices"
	"testing"

	"thatch/api"
	"thatch/batch"
	"thatch/crc"
)

func g(conv, seq, length, limit, cache int) api.Geom {
	return api.Geom{Conv: conv, Seq: seq, Len: length, Limit: limit, Cache: cache}
}

func s(at, n int) api.Span { return api.Span{At: at, N: n} }

func data(seq int, l ...api.Span) api.Batch {
	return api.Batch{Seq: seq, Kind: api.BatchData, Spans: l}
}

func hole(seq int, l ...api.Span) api.Batch {
	return api.Batch{Seq: seq, Kind: api.BatchHole, Spans: l}
}

// top is the greatest number of a batch.
const top = 1 << 40

// small has 45 sectors, of which 8 are written at once; wide has 14322; narrow
// has 14, of which 6 are written at once.
var (
	small  = g(2, 6, 16, 3, 2)
	wide   = g(2, 16, 1024, 3, 1)
	narrow = g(2, 4, 8, 2, 1)
)

// wholeGeoms are geometries that may be, at the edges too.
func wholeGeoms() []api.Geom {
	return []api.Geom{small, wide, narrow, g(2, 4, 8, 4, 2), g(16, 128, 1024, 128, 126), g(16, 128, 1024, 128, 1), g(3, 6, 12, 3, 2), g(2, 128, 8, 2, 126), g(5, 9, 17, 3, 4), g(2, 5, 9, 2, 3)}
}

// brokenGeoms are geometries that may not be.
func brokenGeoms() []api.Geom {
	l := []api.Geom{{}, g(1, 8, 16, 3, 2), g(17, 8, 16, 3, 2), g(2, 3, 16, 2, 1), g(2, 8, 7, 3, 2), g(2, 8, 16, 1, 2), g(2, 8, 16, 3, 0), g(2, 8, 16, 3, 7), g(2, 59, 8, 2, 1)}
	for _, x := range []int{math.MinInt, -1, 0, 1 << 20, math.MaxInt} {
		l = append(l, g(x, 8, 16, 3, 2), g(2, x, 16, 3, 2), g(2, 8, x, 3, 2), g(2, 8, 16, x, 2), g(2, 8, 16, 3, x), g(x, x, x, x, x))
	}
	return l
}

// sectorsOf is how many sectors a geometry's device has; runOf how many of them
// are written at once.
func sectorsOf(x api.Geom) int { return (x.Seq - x.Cache - 1) * (x.Len - 1) }

func runOf(x api.Geom) int { return min(8, x.Len-2) }

// singles is n spans of a sector each, of which each other one is left out.
func singles(from, n int) []api.Span {
	var l []api.Span
	for i := range n {
		l = append(l, s(from+2*i, 1))
	}
	return l
}

// wholeBatches are batches of geometry small that may be, at the edges too.
func wholeBatches() []api.Batch {
	l := []api.Batch{
		data(1, s(0, 1)), data(top, s(44, 1)), data(7, s(0, 8)), data(7, s(37, 8)), data(7, s(5, 3)), data(7, s(14, 2)),
		data(7, singles(0, 8)...), data(7, singles(29, 8)...), data(7, s(0, 4), s(4, 4)), data(7, s(4, 4), s(0, 4)), data(7, s(44, 1), s(0, 7)), data(7, s(3, 1), s(2, 1), s(1, 1)), data(7, s(10, 1), s(9, 1), s(11, 6)),
		hole(1, s(0, 1)), hole(top, s(44, 1)), hole(7, s(0, 45)), hole(7, s(0, 22), s(22, 23)), hole(7, s(22, 23), s(0, 22)), hole(7, singles(0, 8)...), hole(7, s(1, 43), s(44, 1), s(0, 1)),
	}
	for _, seq := range []int{1, 2, 255, 256, 0x0102030405, 1 << 32, 1<<40 - 1, 1 << 40} {
		l = append(l, data(seq, s(5, 3), s(30, 2)), hole(seq, s(5, 30), s(40, 2)))
	}
	return l
}

// brokenBatches are batches that may not be of geometry small: each by one thing
// alone.
func brokenBatches() []api.Batch {
	var l []api.Batch
	for _, kind := range []int{math.MinInt, -1, 0, 3, 4, 257, 258, math.MaxInt} {
		l = append(l, api.Batch{Seq: 7, Kind: kind, Spans: []api.Span{s(0, 1)}})
	}
	for _, kind := range []int{api.BatchData, api.BatchHole} {
		of := func(seq int, spans ...api.Span) {
			l = append(l, api.Batch{Seq: seq, Kind: kind, Spans: spans})
		}
		for _, seq := range []int{math.MinInt, -1, 0, top + 1, top + 2, math.MaxInt} {
			of(seq, s(0, 1))
		}
		of(7)
		of(7, []api.Span{}...)
		of(7, singles(0, 9)...)
		of(7, singles(0, 16)...)
		// Two have a sector in common, the first and the last ones too.
		of(7, s(0, 2), s(1, 2))
		of(7, s(1, 2), s(0, 2))
		of(7, s(3, 1), s(3, 1))
		of(7, s(0, 5), s(2, 1))
		of(7, s(2, 1), s(0, 5))
		of(7, s(0, 1), s(2, 1), s(4, 1), s(0, 1))
		of(7, append(singles(0, 7), s(12, 1))...)
		of(7, append([]api.Span{s(14, 1)}, singles(2, 7)...)...)
		// One the device has not, or that is empty, ahead and behind.
		for _, x := range []api.Span{s(0, 0), s(5, 0), s(45, 0), s(45, 1), s(44, 2), s(0, 46), s(-1, 1), s(-1, 2), s(0, -1), s(5, -2), s(math.MaxInt, 1), s(0, math.MaxInt), s(math.MinInt, math.MinInt), s(math.MaxInt, math.MaxInt), s(top, 0)} {
			of(7, x)
			of(7, x, s(20, 1))
			of(7, s(20, 1), x)
		}
	}
	// More than is written at once.
	return append(l, data(7, s(0, 9)), data(7, s(36, 9)), data(7, s(0, 45)), data(7, s(0, 4), s(4, 5)), data(7, s(0, 8), s(8, 1)), data(7, s(8, 1), s(0, 8)), data(7, append(singles(0, 7), s(20, 2))...))
}

// low is the lowest bytes of a number, the lowest one first.
func low(size, n int) []byte {
	var b []byte
	for range size {
		b = append(b, byte(n))
		n >>= 8
	}
	return b
}

// parts are the bytes of a head's numbers, one by one.
func parts(b api.Batch, sum uint32) [][]byte {
	l := [][]byte{[]byte("BT"), low(1, b.Kind), low(1, len(b.Spans)), low(8, b.Seq), low(4, int(sum))}
	for _, x := range b.Spans {
		l = append(l, low(4, x.At), low(2, x.N), low(2, 0))
	}
	return l
}

// sealed is the sealed sector of some bytes.
func sealed(t *testing.T, b []byte) []byte {
	t.Helper()
	sector, e := crc.Seal(b)
	if e != api.OK {
		t.Fatal(e)
	}
	return sector
}

// head is the sector of a head, whether the batch may be or not.
func head(t *testing.T, b api.Batch, sum uint32) []byte {
	t.Helper()
	return sealed(t, bytes.Join(parts(b, sum), nil))
}

// some is n bytes, all of which are other ones than their neighbours.
func some(n, seed int) []byte {
	b := make([]byte, n)
	for i := range b {
		b[i] = byte(i*7 + i/128*3 + seed)
	}
	return b
}

// bytesOf is how many bytes of data a batch that may be has.
func bytesOf(b api.Batch) int {
	n := 0
	for _, x := range b.Spans {
		n += 128 * x.N
	}
	if b.Kind == api.BatchHole {
		return 0
	}
	return n
}

// sectors is what stands in a zone of a batch and its data, as the tests put it.
func sectors(t *testing.T, b api.Batch, content []byte) []byte {
	t.Helper()
	return append(head(t, b, crc.Sum(content)), content...)
}

// isSame tells whether two batches are the same, as the tests see it.
func isSame(a, b api.Batch) bool {
	if a.Seq != b.Seq || a.Kind != b.Kind || len(a.Spans) != len(b.Spans) {
		return false
	}
	for i, x := range a.Spans {
		if x != b.Spans[i] {
			return false
		}
	}
	return true
}

// clone is a batch that shares nothing with another one.
func clone(b api.Batch) api.Batch {
	b.Spans = slices.Clone(b.Spans)
	return b
}

// placed is a batch, and where its head stands.
type placed struct {
	at    int
	batch api.Batch
}

// found is what an iterator goes over, in its order.
func found(seq iter.Seq2[int, api.Batch]) []placed {
	var l []placed
	for at, b := range seq {
		l = append(l, placed{at, b})
	}
	return l
}

func samePlaced(a, b []placed) bool {
	return slices.EqualFunc(a, b, func(x, y placed) bool { return x.at == y.at && isSame(x.batch, y.batch) })
}

// wantScan wants that Scan goes over just these.
func wantScan(t *testing.T, what string, x api.Geom, l []byte, want []placed) {
	t.Helper()
	if got := found(batch.Scan(x, l)); !samePlaced(got, want) {
		t.Errorf("%s: %v, not %v", what, got, want)
	}
}

// wantNone wants that sectors begin with no batch of geometry small.
func wantNone(t *testing.T, what string, l []byte) {
	t.Helper()
	if b, content, e := batch.Decode(small, l); e != api.ErrCode || !isSame(b, api.Batch{}) || len(content) > 0 {
		t.Errorf("%s: %v, %d bytes, %d", what, b, len(content), e)
	}
	wantScan(t, what, small, l, nil)
}

// wantNoHead wants that a sector is no head of a batch of geometry small.
func wantNoHead(t *testing.T, what string, sector []byte) {
	t.Helper()
	if b, sum, e := batch.Head(small, sector); e != api.ErrCode || !isSame(b, api.Batch{}) || sum != 0 {
		t.Errorf("%s: %v %d %d", what, b, sum, e)
	}
	wantNone(t, what, slices.Concat(sector, make([]byte, 128*8)))
}

// numbers are numbers that look like chance, the same ones each time.
func numbers(seed uint64) func(below int) int {
	x := seed*0x9E3779B97F4A7C15 + 1
	return func(below int) int {
		x ^= x << 13
		x ^= x >> 7
		x ^= x << 17
		return int(x>>11) % below
	}
}

// someBatch is a batch of a geometry that may be, of any such spans.
func someBatch(x api.Geom, number func(int) int) api.Batch {
	b := api.Batch{Seq: 1 + number(5000), Kind: api.BatchData + number(2)}
	left := runOf(x)
	taken := make([]int, sectorsOf(x))
	for range 1 + number(8) {
		at := number(sectorsOf(x))
		n := 0
		for at+n < len(taken) && taken[at+n] == 0 && n < 1+number(4) && (b.Kind == api.BatchHole || n < left) {
			taken[at+n]++
			n++
		}
		if n > 0 {
			b.Spans = append(b.Spans, s(at, n))
			left -= n
		}
	}
	return b
}
