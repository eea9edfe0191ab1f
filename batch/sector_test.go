package batch_test

import (
	"bytes"
	"math"
	"slices"
	"testing"

	"thatch/api"
	"thatch/batch"
	"thatch/crc"
)

// wantBack wants that a batch has the sectors that it is to have, and that they
// say what it was: they are answered.
func wantBack(t *testing.T, x api.Geom, b api.Batch, seed int) []byte {
	t.Helper()
	content := some(bytesOf(b), seed)
	l, e := batch.Encode(x, b, content)
	if e != api.OK || !bytes.Equal(l, sectors(t, b, content)) || len(l) != 128*batch.Sectors(b) {
		t.Fatalf("%v: %d bytes, %d", b, len(l), e)
	}
	wantDecoded(t, x, l, b, content)
	if got, sum, e := batch.Head(x, l[:128]); e != api.OK || !isSame(got, b) || sum != crc.Sum(content) {
		t.Errorf("%v: head %v %d %d", b, got, sum, e)
	}
	return l
}

// wantDecoded wants that sectors begin with a batch and its data.
func wantDecoded(t *testing.T, x api.Geom, l []byte, b api.Batch, content []byte) {
	t.Helper()
	if got, d, e := batch.Decode(x, l); e != api.OK || !isSame(got, b) || !bytes.Equal(d, content) {
		t.Errorf("%v: decoded %v, %d bytes, %d", b, got, len(d), e)
	}
}

// P16.1, P16.4: sectors, byte by byte, and what they say, whatever stands behind.
func TestEncode(t *testing.T) {
	for i, b := range wholeBatches() {
		l := wantBack(t, small, b, i)
		for _, behind := range [][]byte{make([]byte, 128), some(3*128, 5), l, bytes.Repeat([]byte{0xFF}, 1024)} {
			wantDecoded(t, small, slices.Concat(l, behind), b, some(bytesOf(b), i))
		}
	}
}

// P16.1: a batch whose sectors were written out by hand.
func TestByHand(t *testing.T) {
	content := bytes.Repeat([]byte("thatch!\n"), 3*16)
	l, e := batch.Encode(small, data(0x0102030405, s(5, 2), s(0x2C, 1)), content)
	if e != api.OK || len(l) != 4*128 {
		t.Fatal(len(l), e)
	}
	sum := crc.Sum(content)
	body := []byte{
		'B', 'T', 1, 2, 5, 4, 3, 2, 1, 0, 0, 0, byte(sum), byte(sum >> 8), byte(sum >> 16), byte(sum >> 24),
		5, 0, 0, 0, 2, 0, 0, 0,
		0x2C, 0, 0, 0, 1, 0, 0, 0,
	}
	body = append(body, make([]byte, 124-len(body))...)
	if !bytes.Equal(l[4:128], body) || !crc.Check(l[:128]) || !bytes.Equal(l[128:], content) {
		t.Errorf("% x", l[:128])
	}
	l, e = batch.Encode(wide, hole(3, s(0x2345, 0x1000), s(1, 0x0203)), nil)
	if e != api.OK || len(l) != 128 {
		t.Fatal(len(l), e)
	}
	body = []byte{
		'B', 'T', 2, 2, 3, 0, 0, 0, 0, 0, 0, 0, 0, 0, 0, 0,
		0x45, 0x23, 0, 0, 0x00, 0x10, 0, 0,
		1, 0, 0, 0, 0x03, 0x02, 0, 0,
	}
	body = append(body, make([]byte, 124-len(body))...)
	if !bytes.Equal(l[4:], body) || !crc.Check(l) {
		t.Errorf("% x", l)
	}
}

// P16.1: great numbers of sectors, of great devices.
func TestEncodeGreat(t *testing.T) {
	x := g(16, 128, 1024, 128, 1)
	n := sectorsOf(x)
	for _, b := range []api.Batch{hole(top, s(n-4096, 4096), s(0, 4096), s(70000, 1), s(65535, 2)), data(top, s(n-3, 3), s(65535, 2), s(0, 3)), data(1, singles(n-15, 8)...)} {
		wantBack(t, x, b, 1)
	}
}

// P16.1: any batches of some geometries, there and back.
func TestThereAndBack(t *testing.T) {
	for _, x := range []api.Geom{small, narrow, wide, g(3, 6, 12, 3, 2), g(2, 5, 9, 2, 3)} {
		for seed := range 200 {
			wantBack(t, x, someBatch(x, numbers(uint64(seed))), seed)
		}
	}
}

// P16.1: data of which there are too few, or too many.
func TestEncodeData(t *testing.T) {
	for _, b := range wholeBatches() {
		n := bytesOf(b)
		for _, many := range []int{0, 1, 127, 128, 256, n - 128, n - 1, n + 1, n + 127, n + 128, 2 * n, 100000} {
			if many == n || many < 0 {
				continue
			}
			if l, e := batch.Encode(small, b, some(many, 1)); e != api.ErrArg || len(l) > 0 {
				t.Errorf("%v, %d bytes: %d bytes, %d", b, many, len(l), e)
			}
		}
	}
}

// P16.1: sealed sectors that are no heads: each by one number alone.
func TestHeadNone(t *testing.T) {
	content := some(3*128, 1)
	plain := data(7, s(5, 2), s(20, 1))
	right := parts(plain, crc.Sum(content))
	bad := func(what string, part int, with []byte) {
		t.Helper()
		l := slices.Clone(right)
		l[part] = with
		sector := sealed(t, bytes.Join(l, nil))
		wantNoHead(t, what, sector)
		wantNone(t, what, slices.Concat(sector, content))
	}
	for _, mark := range []string{"TB", "BU", "CT", "bt", "\x00\x00", "JR", "PG"} {
		bad("mark "+mark, 0, []byte(mark))
	}
	for _, kind := range []int{0, 3, 4, 128, 255} {
		bad("kind", 1, low(1, kind))
	}
	// One span more would be {0, 0}; of one fewer what is left is not 0.
	for _, many := range []int{0, 1, 3, 8, 9, 13, 255} {
		bad("how many", 2, low(1, many))
	}
	for _, seq := range []int{0, top + 1, 1 << 41, 1 << 62, math.MaxInt, math.MinInt, -1} {
		bad("number", 3, low(8, seq))
	}
	for _, at := range []int{5, 6, 45, 46, 1 << 16, 1 << 31, 1<<32 - 1} {
		bad("at", 8, low(4, at))
	}
	for _, n := range []int{0, 26, 4096, 4097, 65535, 16} {
		bad("n", 9, low(2, n))
	}
	for _, n := range []int{1, 256, 65535} {
		bad("bytes 0", 7, low(2, n))
		bad("bytes 0", 10, low(2, n))
	}
	wantNoHead(t, "nine spans", head(t, data(7, singles(0, 9)...), 0))
	wantNoHead(t, "a sum of no data", head(t, hole(7, s(0, 1)), 1))
	wantNoHead(t, "a sum of no data", head(t, hole(7, s(0, 1)), crc.Sum(content)))
	for _, b := range brokenBatches() {
		if len(b.Spans) <= 9 {
			wantNoHead(t, "a batch that may not be", head(t, within(b), 0))
		}
	}
	// The longest that may be, with one byte behind it.
	long := bytes.Join(parts(hole(7, singles(0, 8)...), 0), nil)
	if _, _, e := batch.Head(small, sealed(t, long)); e != api.OK {
		t.Error(e)
	}
	for at := len(long); at < 124; at++ {
		wantNoHead(t, "something behind", sealed(t, append(slices.Concat(long, make([]byte, at-len(long))), 1)))
	}
}

// within is a batch whose numbers a head has room for: others are made such that
// may not be, either.
func within(b api.Batch) api.Batch {
	b = clone(b)
	if b.Kind < 0 || b.Kind > 255 {
		b.Kind = 255
	}
	for i, x := range b.Spans {
		if x.At < 0 || x.At >= 1<<32 {
			x.At = 1<<32 - 1
		}
		if x.N < 0 || x.N >= 1<<16 {
			x.N = 1<<16 - 1
		}
		b.Spans[i] = x
	}
	return b
}

// P16.1: sectors that are not whole, or not sealed.
func TestHeadBytes(t *testing.T) {
	for _, b := range []api.Batch{data(7, s(5, 2), s(20, 1)), hole(7, s(5, 2))} {
		sector := head(t, b, 0)
		for at := range sector {
			for bit := range 8 {
				other := slices.Clone(sector)
				other[at] ^= 1 << bit
				if _, _, e := batch.Head(small, other); e != api.ErrCode {
					t.Errorf("byte %d, bit %d: %d", at, bit, e)
				}
			}
		}
		for _, other := range [][]byte{nil, {}, sector[:127], append(slices.Clone(sector), 0), append(slices.Clone(sector), sector...), make([]byte, 128), bytes.Repeat([]byte{0xFF}, 128)} {
			if got, sum, e := batch.Head(small, other); e != api.ErrCode || !isSame(got, api.Batch{}) || sum != 0 {
				t.Errorf("%d bytes: %v %d %d", len(other), got, sum, e)
			}
		}
	}
}

// P16.1, P16.4: what was cut off, what is no whole number of sectors, and other
// data are none.
func TestDecodeNone(t *testing.T) {
	for i, b := range wholeBatches() {
		content := some(bytesOf(b), i)
		l := sectors(t, b, content)
		for n := range len(l) {
			if n%128 == 0 || n%128 == 1 || n%128 == 127 {
				wantNone(t, "cut off", l[:n])
			}
		}
		for _, n := range []int{1, 64, 127, 129} {
			wantNone(t, "no whole number of sectors", slices.Concat(l, make([]byte, n)))
		}
		for at := 128; at < len(l); at += 1 + at%37 {
			other := slices.Clone(l)
			other[at] ^= 1 << (at % 8)
			wantNone(t, "other data", other)
		}
		if len(content) > 0 {
			wantNone(t, "another sum", slices.Concat(head(t, b, crc.Sum(content)+1), content))
			wantNone(t, "no sum", slices.Concat(head(t, b, 0), content))
		}
		if len(content) > 128 {
			wantNone(t, "data in another order", slices.Concat(l[:128], content[128:], content[:128]))
		}
		wantNone(t, "another batch ahead", slices.Concat(make([]byte, 128), l))
	}
	wantNone(t, "nothing", nil)
	wantNone(t, "bytes 0", make([]byte, 16*128))
}

// P16.1: what may be of one geometry may not be of another.
func TestDecodeGeom(t *testing.T) {
	b := data(7, s(20, 8))
	content := some(8*128, 1)
	l := sectors(t, b, content)
	for x, want := range map[api.Geom]api.Errno{small: api.OK, wide: api.OK, narrow: api.ErrCode, g(2, 6, 9, 3, 1): api.ErrCode} {
		if got, d, e := batch.Decode(x, l); e != want || isSame(got, b) != (e == api.OK) || bytes.Equal(d, content) != (e == api.OK) {
			t.Errorf("%v: %v %d", x, got, e)
		}
		if got, _, e := batch.Head(x, l[:128]); e != want || isSame(got, b) != (e == api.OK) {
			t.Errorf("%v: %v %d", x, got, e)
		}
		if got := found(batch.Scan(x, l)); (len(got) == 1) != (want == api.OK) {
			t.Errorf("%v: %v", x, got)
		}
		if _, e := batch.Encode(x, b, content); (e == api.OK) != (want == api.OK) {
			t.Errorf("%v: %d", x, e)
		}
	}
}

// zoneOf is any batches, one behind the other, and where they stand.
func zoneOf(t *testing.T, x api.Geom, number func(int) int, many int) ([]byte, []placed) {
	t.Helper()
	var l []byte
	var want []placed
	for i := range many {
		b := someBatch(x, number)
		want = append(want, placed{len(l) / 128, b})
		l = append(l, sectors(t, b, some(bytesOf(b), i))...)
	}
	return l, want
}

// P16.2, P16.4: batches one behind the other are all found, up to the first that
// is none, whatever stands behind that; their numbers do not matter.
func TestScan(t *testing.T) {
	for _, x := range []api.Geom{small, narrow, wide} {
		for seed := range 60 {
			number := numbers(uint64(seed))
			l, want := zoneOf(t, x, number, seed%8)
			wantScan(t, "all", x, l, want)
			wantScan(t, "bytes 0 behind", x, slices.Concat(l, make([]byte, 128*number(5))), want)
			more, _ := zoneOf(t, x, number, 3)
			wantScan(t, "none, and more behind", x, slices.Concat(l, some(128, seed), more), want)
			wantScan(t, "bytes 0, and more behind", x, slices.Concat(l, make([]byte, 128), more), want)
			wantScan(t, "no whole number of sectors", x, append(slices.Clone(l), 0), nil)
			if len(l) == 0 {
				continue
			}
			wantScan(t, "no whole number of sectors", x, l[:len(l)-1], nil)
			wantScan(t, "no whole number of sectors", x, l[1:], nil)
			for n := range len(l) / 128 {
				var whole []placed
				for _, p := range want {
					if p.at+batch.Sectors(p.batch) <= n {
						whole = append(whole, p)
					}
				}
				wantScan(t, "cut off", x, l[:128*n], whole)
			}
			wantSpoilt(t, x, l, want, number)
		}
	}
}

// wantSpoilt wants that where a batch is spoilt those ahead of it are found.
func wantSpoilt(t *testing.T, x api.Geom, l []byte, want []placed, number func(int) int) {
	t.Helper()
	for i, p := range want {
		at := 128*p.at + number(128*batch.Sectors(p.batch))
		other := slices.Clone(l)
		other[at] ^= byte(1 + number(255))
		wantScan(t, "spoilt", x, other, want[:i])
	}
}

// P16.2: a whole zone of heads alone.
func TestScanMany(t *testing.T) {
	var l []byte
	var want []placed
	for i := range 1024 {
		b := hole(1024-i, s(i, 5))
		want = append(want, placed{i, b})
		l = append(l, sectors(t, b, nil)...)
	}
	wantScan(t, "many", wide, l, want)
	// The same one, again and again.
	b := data(7, s(5, 3))
	l = bytes.Repeat(sectors(t, b, some(3*128, 1)), 4)
	wantScan(t, "the same", small, l, []placed{{0, b}, {4, b}, {8, b}, {12, b}})
}

// R5: an iterator begins anew, may be stopped, and goes within itself; what it
// goes over is left to whoever ranges.
func TestScanAgain(t *testing.T) {
	l, want := zoneOf(t, small, numbers(3), 5)
	seq := batch.Scan(small, l)
	for range 3 {
		if got := found(seq); !samePlaced(got, want) {
			t.Errorf("%v", got)
		}
	}
	for many := 1; many <= len(want); many++ {
		var got []placed
		for at, b := range seq {
			got = append(got, placed{at, b})
			if len(got) == many {
				break
			}
		}
		if !samePlaced(got, want[:many]) {
			t.Errorf("stopped behind %d: %v", many, got)
		}
	}
	pairs := 0
	for a := range seq {
		for b := range seq {
			if a < b {
				pairs++
			}
		}
	}
	if pairs != 10 {
		t.Error("within itself:", pairs)
	}
	// Longer, shorter, or no spans at all: the next one stands where it stood.
	for _, n := range []int{-1, 0, 1, 1000} {
		i := 0
		for at, b := range seq {
			if at != want[i].at || !isSame(b, want[i].batch) {
				t.Errorf("%d: %v", at, b)
			}
			wipe(b.Spans, s(n, n))
			i++
		}
		if i != len(want) {
			t.Error(i, "of", len(want))
		}
	}
}
