package le_test

import (
	"bytes"
	"math"
	"testing"

	"thatch/api"
	"thatch/le"
)

var sizes = []int{1, 2, 4, 8}
var noSizes = []int{math.MinInt, -8, -1, 0, 3, 5, 6, 7, 9, 16, 64, math.MaxInt}

// numbers is a row of numbers that is the same each time.
func numbers(n int) []uint64 {
	l := make([]uint64, n)
	x := uint64(0x9E3779B97F4A7C15)
	for i := range l {
		x ^= x << 13
		x ^= x >> 7
		x ^= x << 17
		l[i] = x
	}
	return l
}

// wantBytes wants a writer that is not at fault, with these bytes.
func wantBytes(t *testing.T, what string, w *le.Writer, want []byte) {
	t.Helper()
	got, e := w.Done()
	if e != api.OK || !bytes.Equal(got, want) {
		t.Errorf("%s: %x %d, not %x", what, got, e, want)
	}
}

// wantFull wants a writer at fault of which so many bytes were put.
func wantFull(t *testing.T, what string, w *le.Writer, put int) {
	t.Helper()
	if got, e := w.Done(); e != api.ErrFull || len(got) != 0 || w.Len() != put {
		t.Errorf("%s: %x %d, %d put", what, got, e, w.Len())
	}
}

// wantFault wants a reader that is at fault, and stays so.
func wantFault(t *testing.T, what string, r *le.Reader) {
	t.Helper()
	for range 2 {
		if r.Left() != 0 || r.Done() != api.ErrCode {
			t.Errorf("%s: left %d, done %d", what, r.Left(), r.Done())
		}
		if r.Get(1) != 0 || r.Int(1, 0, 255) != 0 || r.Int(8, math.MinInt, math.MaxInt) != 0 || len(r.Bytes(1)) != 0 || len(r.Bytes(0)) != 0 {
			t.Errorf("%s: something is got of a reader at fault", what)
		}
	}
}

// P1.1: the room of a writer.
func TestNew(t *testing.T) {
	for _, room := range []int{math.MinInt, -1, 65537, 1 << 32, math.MaxInt} {
		if le.New(room) != nil {
			t.Errorf("room %d: a writer", room)
		}
	}
	for _, room := range []int{0, 1, 128, 65536} {
		w := le.New(room)
		if w == nil || w.Len() != 0 {
			t.Fatalf("room %d: %v", room, w)
		}
		wantBytes(t, "nothing put", w, make([]byte, room))
	}
}

// P1.1: the lowest bytes of a number, the lowest first.
func TestPut(t *testing.T) {
	for _, c := range []struct {
		size int
		n    uint64
		want string
	}{
		{1, 0xA5, "\xA5"},
		{1, 0x1FF, "\xFF"},
		{2, 258, "\x02\x01"},
		{2, 0xABCD1234, "\x34\x12"},
		{4, 0x01020304, "\x04\x03\x02\x01"},
		{4, math.MaxUint64, "\xFF\xFF\xFF\xFF"},
		{8, 0x0102030405060708, "\x08\x07\x06\x05\x04\x03\x02\x01"},
		{8, 1 << 63, "\x00\x00\x00\x00\x00\x00\x00\x80"},
		{8, 0, "\x00\x00\x00\x00\x00\x00\x00\x00"},
	} {
		w := le.New(c.size)
		if w.Put(c.size, c.n) != w || w.Len() != c.size {
			t.Errorf("size %d: another writer, or %d put", c.size, w.Len())
		}
		wantBytes(t, "a number alone", w, []byte(c.want))
		wantBytes(t, "with room behind", le.New(11).Put(c.size, c.n), append([]byte(c.want), make([]byte, 11-c.size)...))
	}
}

// P1.1: bytes, and several things one behind the other.
func TestPutBytes(t *testing.T) {
	w := le.New(9)
	if w.Bytes([]byte("abc")) != w || w.Len() != 3 {
		t.Errorf("%d put", w.Len())
	}
	w.Put(2, 0x4544).Bytes(nil).Bytes([]byte{}).Bytes([]byte("F"))
	if w.Len() != 6 {
		t.Errorf("%d put", w.Len())
	}
	wantBytes(t, "three things", w, []byte("abcDEF\x00\x00\x00"))
	wantBytes(t, "nothing in no room", le.New(0).Bytes(nil), nil)
	all := bytes.Repeat([]byte("0123456789abcdef"), 4096)
	wantBytes(t, "all of the greatest room", le.New(65536).Bytes(all), all)
}

// P1.1: what has no room is not put, nor is anything behind it.
func TestPutNoRoom(t *testing.T) {
	for _, size := range sizes {
		for room := range size {
			w := le.New(room)
			if w.Put(size, math.MaxUint64) != w {
				t.Error("another writer")
			}
			wantFull(t, "a number", w, 0)
		}
		w := le.New(size+3).Put(1, 1).Put(1, 2).Put(1, 3)
		wantFull(t, "a number too many", w.Put(size, 0).Put(size, 0), size+3)
	}
	wantFull(t, "bytes", le.New(2).Bytes([]byte("abc")), 0)
	wantFull(t, "bytes in no room", le.New(0).Bytes([]byte{0}), 0)
	w := le.New(4).Put(2, 7).Put(4, 7)
	for range 2 {
		if w.Put(1, 1) != w || w.Put(2, 1) != w || w.Bytes([]byte("a")) != w || w.Bytes(nil) != w {
			t.Error("another writer")
		}
		wantFull(t, "something behind a fault", w, 2)
	}
	wantFull(t, "too many bytes", le.New(65536).Bytes(make([]byte, 65537)), 0)
}

// P1.1: a size that is none.
func TestPutNoSize(t *testing.T) {
	for _, size := range noSizes {
		w := le.New(100).Put(2, 7)
		if w.Put(size, 1) != w {
			t.Error("another writer")
		}
		wantFull(t, "no size", w.Put(1, 1), 2)
	}
}

// P1.1: Done does not end a writer.
func TestPutOn(t *testing.T) {
	w := le.New(3).Put(1, 1)
	wantBytes(t, "one", w, []byte{1, 0, 0})
	wantBytes(t, "once more", w, []byte{1, 0, 0})
	wantBytes(t, "two", w.Put(2, 0x0302), []byte{1, 2, 3})
	wantFull(t, "too many", w.Put(1, 0), 3)
}

// P1.2: numbers as they stand.
func TestGet(t *testing.T) {
	b := []byte{0x01, 0x82, 0x03, 0x84, 0x05, 0x86, 0x07, 0x88}
	for size, want := range map[int]uint64{1: 0x01, 2: 0x8201, 4: 0x84038201, 8: 0x8807860584038201} {
		r := le.Take(b)
		if got := r.Get(size); got != want || r.Left() != 8-size {
			t.Errorf("size %d: %x, left %d", size, got, r.Left())
		}
		if got := le.Take(b).Int(size, math.MinInt, math.MaxInt); got != int(want) {
			t.Errorf("size %d: %x", size, got)
		}
	}
	r := le.Take(b)
	if r.Get(1) != 0x01 || r.Get(4) != 0x05840382 || r.Int(2, 0, 0xFFFF) != 0x0786 || r.Left() != 1 || r.Get(1) != 0x88 || r.Left() != 0 || r.Done() != api.OK {
		t.Error("numbers one behind the other")
	}
}

// P1.2: the bounds of an int, and the sign of one of 64 bits alone.
func TestInt(t *testing.T) {
	ones := bytes.Repeat([]byte{0xFF}, 8)
	for size, want := range map[int]int{1: 1<<8 - 1, 2: 1<<16 - 1, 4: 1<<32 - 1, 8: -1} {
		for _, in := range [][2]int{{want, want}, {math.MinInt, want}, {want, math.MaxInt}} {
			r := le.Take(ones)
			if r.Int(size, in[0], in[1]) != want || r.Left() != 8-size {
				t.Errorf("size %d within %v", size, in)
			}
		}
		for _, out := range [][2]int{{want + 1, math.MaxInt}, {math.MinInt, want - 1}, {want + 1, want - 1}, {want + 1, want}, {want, want - 1}} {
			r := le.Take(ones)
			if got := r.Int(size, out[0], out[1]); got != 0 {
				t.Errorf("size %d out of %v: %d", size, out, got)
			}
			wantFault(t, "out of bounds", r)
		}
	}
	least := []byte{0, 0, 0, 0, 0, 0, 0, 0x80}
	if le.Take(least).Int(8, math.MinInt, 0) != math.MinInt || le.Take(least).Get(8) != 1<<63 {
		t.Error("the least int")
	}
	r := le.Take(make([]byte, 4))
	r.Int(1, 1, 9)
	wantFault(t, "0 out of bounds", r)
}

// P1.2: the next bytes.
func TestGetBytes(t *testing.T) {
	r := le.Take([]byte("abcdef"))
	if len(r.Bytes(0)) != 0 || r.Left() != 6 || string(r.Bytes(2)) != "ab" || r.Left() != 4 || r.Get(1) != 'c' || string(r.Bytes(3)) != "def" || r.Left() != 0 || len(r.Bytes(0)) != 0 || r.Done() != api.OK {
		t.Error("bytes one behind the other")
	}
	for _, n := range []int{7, 1 << 40, math.MaxInt, -1, math.MinInt} {
		r := le.Take([]byte("abcdef"))
		if len(r.Bytes(n)) != 0 {
			t.Errorf("%d of six bytes", n)
		}
		wantFault(t, "as many bytes as there are not", r)
	}
}

// P1.2: what is not there.
func TestGetFault(t *testing.T) {
	for _, size := range sizes {
		for have := range size {
			b := bytes.Repeat([]byte{7}, have)
			r, s := le.Take(b), le.Take(b)
			if r.Get(size) != 0 || s.Int(size, math.MinInt, math.MaxInt) != 0 {
				t.Errorf("size %d of %d bytes", size, have)
			}
			wantFault(t, "too few bytes", r)
			wantFault(t, "too few bytes for an int", s)
		}
	}
	for _, size := range noSizes {
		b := bytes.Repeat([]byte{7}, 64)
		r, s := le.Take(b), le.Take(b)
		if r.Get(size) != 0 || s.Int(size, math.MinInt, math.MaxInt) != 0 {
			t.Errorf("size %d", size)
		}
		wantFault(t, "no size", r)
		wantFault(t, "no size of an int", s)
	}
}

// P1.2: what is left at the end.
func TestReaderDone(t *testing.T) {
	for _, b := range [][]byte{nil, {}, {0}, make([]byte, 300)} {
		if r := le.Take(b); r.Left() != len(b) || r.Done() != api.OK || r.Left() != len(b) {
			t.Errorf("%d bytes 0: %d", len(b), r.Done())
		}
	}
	for i := range 5 {
		b := make([]byte, 5)
		b[i] = 0x80
		r := le.Take(b)
		for got := range 6 {
			want := api.ErrCode
			if got > i {
				want = api.OK
			}
			if r.Done() != want {
				t.Errorf("byte %d is not 0, %d were got: %d", i, got, r.Done())
			}
			if got < 5 {
				r.Get(1)
			}
		}
	}
}

// P1.3: how many bits there may be.
func TestNewBits(t *testing.T) {
	for _, n := range []int{math.MinInt, -1, 65537, math.MaxInt} {
		if le.NewBits(n) != nil {
			t.Errorf("%d bits", n)
		}
		if b, e := le.Unpack(n, nil); b != nil || e != api.ErrArg {
			t.Errorf("%d bits: %v %d", n, b, e)
		}
	}
	for _, n := range []int{0, 1, 7, 8, 9, 65535, 65536} {
		b := le.NewBits(n)
		if b == nil || b.Count() != 0 || b.First(true, 0) != -1 || len(b.Pack()) != (n+7)/8 {
			t.Fatalf("%d bits", n)
		}
		if b.Set(n, true) || b.Has(n) || b.Count() != 0 {
			t.Errorf("there is a bit %d of %d", n, n)
		}
		if n > 0 && (!b.Set(n-1, true) || !b.Has(n-1) || b.First(true, 0) != n-1 || b.Count() != 1) {
			t.Errorf("there is no last bit of %d", n)
		}
	}
}

// P1.3: each bit by itself.
func TestSet(t *testing.T) {
	for i := range 19 {
		b := le.NewBits(19)
		if b.Set(i, false) || !b.Set(i, true) || b.Set(i, true) {
			t.Errorf("bit %d is not set once", i)
		}
		for k := range 19 {
			if b.Has(k) != (k == i) {
				t.Errorf("bit %d set, bit %d is %t", i, k, b.Has(k))
			}
		}
		want := make([]byte, 3)
		want[i/8] = 1 << (i % 8)
		if b.Count() != 1 || !bytes.Equal(b.Pack(), want) {
			t.Errorf("bit %d: %d set, %x", i, b.Count(), b.Pack())
		}
		if !b.Set(i, false) || b.Set(i, false) || b.Has(i) || b.Count() != 0 {
			t.Errorf("bit %d is not cleared once", i)
		}
	}
	b := le.NewBits(10)
	for _, i := range []int{math.MinInt, -8, -1, 10, 11, 15, 16, 65536, math.MaxInt} {
		for _, is := range []bool{true, false} {
			if b.Set(i, is) || b.Has(i) {
				t.Errorf("there is a bit %d", i)
			}
		}
	}
	if b.Count() != 0 || !bytes.Equal(b.Pack(), []byte{0, 0}) {
		t.Error("what there is not was set")
	}
}

// P1.3: the first bit that is so.
func TestFirst(t *testing.T) {
	b := le.NewBits(12)
	for _, i := range []int{0, 3, 4, 11} {
		b.Set(i, true)
	}
	for from, want := range map[int][2]int{math.MinInt: {0, 1}, -1: {0, 1}, 0: {0, 1}, 1: {3, 1}, 3: {3, 5}, 4: {4, 5}, 5: {11, 5}, 8: {11, 8}, 10: {11, 10}, 11: {11, -1}, 12: {-1, -1}, 13: {-1, -1}, math.MaxInt: {-1, -1}} {
		if set, clear := b.First(true, from), b.First(false, from); set != want[0] || clear != want[1] {
			t.Errorf("from %d: %d, %d", from, set, clear)
		}
	}
}

// P1.3: bytes of bits.
func TestUnpack(t *testing.T) {
	b := le.NewBits(10)
	b.Set(0, true)
	b.Set(9, true)
	if !bytes.Equal(b.Pack(), []byte{1, 2}) {
		t.Errorf("%x", b.Pack())
	}
	for n := range 26 {
		ones := bytes.Repeat([]byte{0xFF}, (n+7)/8)
		if n%8 != 0 {
			ones[n/8] = 1<<(n%8) - 1
		}
		if b, e := le.Unpack(n, ones); e != api.OK || b.Count() != n || b.Has(n) || !bytes.Equal(b.Pack(), ones) {
			t.Errorf("%d bits of %x: %d", n, ones, e)
		}
		for i := n; i < 8*len(ones); i++ {
			more := bytes.Clone(ones)
			more[i/8] |= 1 << (i % 8)
			if b, e := le.Unpack(n, more); b != nil || e != api.ErrCode {
				t.Errorf("%d bits of %x: %d", n, more, e)
			}
		}
		for _, wrong := range [][]byte{append(bytes.Clone(ones), 0), ones[:max(len(ones)-1, 0)]} {
			if b, e := le.Unpack(n, wrong); len(wrong) != len(ones) && (b != nil || e != api.ErrCode) {
				t.Errorf("%d bits of %d bytes: %d", n, len(wrong), e)
			}
		}
	}
	if b, e := le.Unpack(65536, bytes.Repeat([]byte{0x81}, 8192)); e != api.OK || b.Count() != 16384 || !b.Has(65535) {
		t.Errorf("the longest row: %d", e)
	}
	if b, e := le.Unpack(-1, []byte{1}); b != nil || e != api.ErrArg {
		t.Errorf("ErrArg comes first: %d", e)
	}
}

// P1.4: what no call made.
func TestNil(t *testing.T) {
	var w *le.Writer
	if b, e := w.Done(); w.Put(1, 1) != nil || w.Put(3, 1) != nil || w.Bytes([]byte("a")) != nil || w.Len() != 0 || len(b) != 0 || e != api.ErrClosed {
		t.Error("a nil writer")
	}
	var r *le.Reader
	if r.Get(1) != 0 || r.Get(3) != 0 || r.Int(1, 5, 9) != 0 || len(r.Bytes(1)) != 0 || len(r.Bytes(-1)) != 0 || r.Left() != 0 || r.Done() != api.ErrClosed {
		t.Error("a nil reader")
	}
	var b *le.Bits
	if b.Set(0, true) || b.Set(-1, false) || b.Has(0) || b.Count() != 0 || b.First(true, 0) != -1 || b.First(false, -1) != -1 || len(b.Pack()) != 0 {
		t.Error("nil bits")
	}
}

// P1.5: what was put is got.
func TestPutGet(t *testing.T) {
	l := numbers(400)
	w := le.New(65536)
	put := 0
	for i, n := range l {
		size := sizes[i%4]
		w.Put(size, n).Bytes(l2b(n)[:i%9])
		put += size + i%9
	}
	b, e := w.Done()
	if e != api.OK || w.Len() != put || len(b) != 65536 {
		t.Fatal(e, w.Len(), put)
	}
	r := le.Take(b)
	for i, n := range l {
		size := sizes[i%4]
		want := n
		if size < 8 {
			want = n & (1<<(8*size) - 1)
		}
		if i%3 == 0 {
			if got := r.Int(size, math.MinInt, math.MaxInt); got != int(want) {
				t.Fatalf("number %d: %d", i, got)
			}
		} else if got := r.Get(size); got != want {
			t.Fatalf("number %d: %x", i, got)
		}
		if got := r.Bytes(i % 9); !bytes.Equal(got, l2b(n)[:i%9]) {
			t.Fatalf("bytes %d: %x", i, got)
		}
	}
	if r.Left() != 65536-put || r.Done() != api.OK {
		t.Error("what is left", r.Left())
	}
}

// l2b is eight bytes of n.
func l2b(n uint64) []byte {
	b, _ := le.New(8).Put(8, n).Done()
	return b
}

// P1.5: bits are as many as are found one after the other, and are what a plain
// list of them would be.
func TestBitsFound(t *testing.T) {
	for _, n := range []int{0, 1, 8, 63, 64, 65, 1000} {
		b := le.NewBits(n)
		plain := make([]bool, n)
		for step, x := range numbers(3 * n) {
			i, is := int(x%uint64(n)), x>>32&1 == 1
			if b.Set(i, is) != (plain[i] != is) {
				t.Fatalf("step %d: bit %d of %d", step, i, n)
			}
			plain[i] = is
		}
		again, e := le.Unpack(n, b.Pack())
		if e != api.OK {
			t.Fatal(n, e)
		}
		wantBits(t, b, plain)
		wantBits(t, again, plain)
	}
}

// wantBits wants the bits of a plain list.
func wantBits(t *testing.T, b *le.Bits, plain []bool) {
	t.Helper()
	found := map[bool]int{}
	for _, is := range []bool{true, false} {
		for i := b.First(is, 0); i >= 0; i = b.First(is, i+1) {
			if plain[i] != is || b.Has(i) != is {
				t.Fatalf("bit %d of %d is not %t", i, len(plain), is)
			}
			found[is]++
		}
	}
	if found[true] != b.Count() || found[true]+found[false] != len(plain) {
		t.Errorf("%d found, %d counted, %d in all", found[true], b.Count(), len(plain))
	}
}

// R3: what was handed in is neither kept nor changed, answers are new memory.
func TestNothingShared(t *testing.T) {
	in := []byte("abcdef")
	w := le.New(8).Bytes(in[:3])
	r := le.Take(in)
	k, _ := le.Unpack(16, in[:2])
	copy(in, "zzzzzz")
	w.Put(2, 0)
	if string(in) != "zzzzzz" {
		t.Errorf("changed: %s", in)
	}
	wantBytes(t, "a writer keeps", w, []byte("abc\x00\x00\x00\x00\x00"))
	one, _ := w.Done()
	spoil(one)
	wantBytes(t, "a writer shares", w, []byte("abc\x00\x00\x00\x00\x00"))
	head := r.Bytes(2)
	if string(head) != "ab" || string(k.Pack()) != "ab" {
		t.Errorf("kept: %s %s", head, k.Pack())
	}
	spoil(head)
	spoil(k.Pack())
	if got := r.Bytes(4); string(got) != "cdef" || string(k.Pack()) != "ab" {
		t.Errorf("shared: %s %s", got, k.Pack())
	}
}

// spoil overwrites a list, and the room behind its end.
func spoil(b []byte) {
	b = b[:cap(b)]
	for i := range b {
		b[i] = 0xEE
	}
}
