package record_test

import (
	"bytes"
	"math"
	"slices"
	"testing"

	"thatch/api"
	"thatch/crc"
	"thatch/record"
)

func put(at, n, zone, off int) api.Delta {
	return api.Delta{Kind: api.DeltaPut, At: at, N: n, Zone: zone, Off: off}
}

func hole(at, n int) api.Delta { return api.Delta{Kind: api.DeltaHole, At: at, N: n} }

func home(band, zone int) api.Delta {
	return api.Delta{Kind: api.DeltaHome, At: band, Zone: zone}
}

func bad(zone int) api.Delta { return api.Delta{Kind: api.DeltaBad, Zone: zone} }

// wholeDeltas may be, at the edges too.
func wholeDeltas() []api.Delta {
	l := []api.Delta{put(0, 1, 0, 0), put(1<<32-1, 65535, 143, 1024), hole(0, 1), hole(1<<32-1, 65535), home(0, 0), bad(0)}
	for _, at := range []int{0, 1, 255, 256, 0x01020304, 1 << 31, 1<<32 - 1} {
		for _, n := range []int{1, 2, 255, 256, 0x0102, 65535} {
			l = append(l, hole(at, n))
			for _, zone := range []int{0, 1, 16, 127, 128, 143} {
				for _, off := range []int{0, 1, 255, 256, 1023, 1024} {
					l = append(l, put(at, n, zone, off))
				}
			}
		}
		for _, zone := range []int{0, 1, 16, 127, 128, 143, 255} {
			l = append(l, home(at, zone))
		}
	}
	for _, zone := range []int{0, 1, 16, 127, 128, 143} {
		l = append(l, bad(zone))
	}
	return l
}

// brokenDeltas may not be: each by one field alone.
func brokenDeltas() []api.Delta {
	var l []api.Delta
	for _, kind := range []int{math.MinInt, -1, 0, 5, 6, 256, 257, math.MaxInt} {
		l = append(l, api.Delta{Kind: kind}, api.Delta{Kind: kind, At: 1, N: 1, Zone: 1, Off: 1})
	}
	for _, n := range []int{math.MinInt, -1, 1 << 32, 1<<32 + 1, math.MaxInt} {
		l = append(l, put(n, 1, 1, 1), hole(n, 1), home(n, 1), home(n, api.NoZone))
	}
	for _, n := range []int{math.MinInt, -1, 0, 65536, 65537, math.MaxInt} {
		l = append(l, put(1, n, 1, 1), hole(1, n))
	}
	for _, n := range []int{math.MinInt, -1, 144, 145, 254, 255, 256, 257, math.MaxInt} {
		l = append(l, put(1, 1, n, 1), bad(n))
		if n != api.NoZone {
			l = append(l, home(1, n))
		}
	}
	for _, n := range []int{math.MinInt, -1, 1025, 1 << 32, math.MaxInt} {
		l = append(l, put(1, 1, 1, n))
	}
	// Fields that the kind has not.
	for _, n := range []int{math.MinInt, -1, 1, 2, 143, 255, math.MaxInt} {
		l = append(l,
			api.Delta{Kind: api.DeltaHole, At: 1, N: 1, Zone: n},
			api.Delta{Kind: api.DeltaHole, At: 1, N: 1, Off: n},
			api.Delta{Kind: api.DeltaHome, At: 1, N: n, Zone: 1},
			api.Delta{Kind: api.DeltaHome, At: 1, Zone: 1, Off: n},
			api.Delta{Kind: api.DeltaHome, At: 1, N: n, Zone: api.NoZone},
			api.Delta{Kind: api.DeltaHome, At: 1, Zone: api.NoZone, Off: n},
			api.Delta{Kind: api.DeltaBad, At: n, Zone: 1},
			api.Delta{Kind: api.DeltaBad, N: n, Zone: 1},
			api.Delta{Kind: api.DeltaBad, Zone: 1, Off: n},
		)
	}
	return l
}

// plain is a record like any other.
func plain() api.Record {
	return api.Record{Epoch: 5, Seq: 300, Commit: true, Upto: 7, Deltas: []api.Delta{put(1, 2, 3, 4), home(9, api.NoZone)}}
}

// with is plain, with something else.
func with(change func(r *api.Record)) api.Record {
	r := plain()
	change(&r)
	return r
}

// whole are records that may be, at the edges too.
func whole() []api.Record {
	l := []api.Record{plain(), {Epoch: 1}}
	for _, n := range []int{1, 2, 255, 0x01020304, 1<<31 - 1, 1 << 31} {
		l = append(l, with(func(r *api.Record) { r.Epoch = n }))
	}
	for _, n := range []int{0, 1, 255, 0x0102030405, 1<<40 - 1, 1 << 40} {
		l = append(l, with(func(r *api.Record) { r.Seq = n }), with(func(r *api.Record) { r.Upto = n }))
	}
	deltas := wholeDeltas()
	for i := range deltas {
		n := i % 7
		r := api.Record{Epoch: i + 1, Seq: i * i, Commit: i%3 == 0, Upto: 2 * i}
		for k := range n {
			r.Deltas = append(r.Deltas, deltas[(i+k*k)%len(deltas)])
		}
		l = append(l, r)
	}
	return l
}

// broken are records that may not be: each by one thing alone.
func broken() []api.Record {
	l := []api.Record{{}}
	for _, n := range []int{math.MinInt, -1, 0, 1<<31 + 1, 1<<32 + 1, math.MaxInt} {
		l = append(l, with(func(r *api.Record) { r.Epoch = n }))
	}
	for _, n := range []int{math.MinInt, -1, 1<<40 + 1, math.MaxInt} {
		l = append(l, with(func(r *api.Record) { r.Seq = n }), with(func(r *api.Record) { r.Upto = n }))
	}
	for _, n := range []int{7, 8, 256, 257, 6000} {
		l = append(l, with(func(r *api.Record) { r.Deltas = slices.Repeat([]api.Delta{hole(1, 1)}, n) }))
	}
	for i, d := range brokenDeltas() {
		l = append(l, with(func(r *api.Record) {
			r.Deltas = slices.Repeat([]api.Delta{hole(1, 1)}, i%6+1)
			r.Deltas[i%len(r.Deltas)] = d
		}))
	}
	return l
}

// low is the lowest bytes of a number, the lowest one first.
func low(size, n int) []byte {
	var b []byte
	for range size {
		b = append(b, byte(n))
		n >>= 8
	}
	return b
}

// parts are the bytes of a record's numbers, one by one.
func parts(r api.Record) [][]byte {
	commit := 0
	if r.Commit {
		commit = 1
	}
	l := [][]byte{[]byte("JR"), low(1, commit), low(1, len(r.Deltas)), low(4, r.Epoch), low(8, r.Seq), low(8, r.Upto)}
	for _, d := range r.Deltas {
		l = append(l, low(1, d.Kind), low(1, d.Zone), low(2, d.N), low(4, d.At), low(4, d.Off), low(4, 0))
	}
	return l
}

// sealed is the sealed sector of some bytes.
func sealed(t *testing.T, b []byte) []byte {
	t.Helper()
	sector, e := crc.Seal(b)
	if e != api.OK {
		t.Fatal(e)
	}
	return sector
}

// sector is the sector of a record, whether it may be or not.
func sector(t *testing.T, r api.Record) []byte {
	t.Helper()
	return sealed(t, bytes.Join(parts(r), nil))
}

// isSame tells whether two records are the same, as the tests see it.
func isSame(a, b api.Record) bool {
	if len(a.Deltas) != len(b.Deltas) {
		return false
	}
	for i, d := range a.Deltas {
		if d != b.Deltas[i] {
			return false
		}
	}
	return a.Epoch == b.Epoch && a.Seq == b.Seq && a.Commit == b.Commit && a.Upto == b.Upto
}

// wantNone wants that a sector is no record's.
func wantNone(t *testing.T, what string, b []byte) {
	t.Helper()
	if r, e := record.Decode(b); e != api.ErrCode || !isSame(r, api.Record{}) {
		t.Errorf("%s: %v %d", what, r, e)
	}
}

// P9.1: which deltas may be.
func TestMayDelta(t *testing.T) {
	for _, d := range wholeDeltas() {
		if !record.MayDelta(d) {
			t.Errorf("%v may not be", d)
		}
	}
	for _, d := range brokenDeltas() {
		if record.MayDelta(d) {
			t.Errorf("%v may be", d)
		}
	}
}

// P9.1: which records may be, and that of others there is no sector.
func TestMay(t *testing.T) {
	for _, r := range whole() {
		if !record.May(r) {
			t.Errorf("%v may not be", r)
		}
	}
	for _, r := range broken() {
		if record.May(r) {
			t.Errorf("%v may be", r)
		}
		if b, e := record.Encode(r); e != api.ErrArg || len(b) != 0 {
			t.Errorf("%v: %x %d", r, b, e)
		}
	}
}

// P9.1, P9.3: what stands in a record's sector, and what is found there.
func TestEncodeDecode(t *testing.T) {
	for _, r := range whole() {
		b, e := record.Encode(r)
		if e != api.OK || !bytes.Equal(b, sector(t, r)) {
			t.Errorf("%v: %x %d", r, b, e)
		}
		if got, e := record.Decode(b); e != api.OK || !isSame(got, r) {
			t.Errorf("%v: decoded %v %d", r, got, e)
		}
	}
}

// P9.1: a sector that was written out by hand.
func TestEncodeByHand(t *testing.T) {
	want := "JR\x01\x02\x05\x00\x00\x00\x2C\x01\x00\x00\x00\x00\x00\x00\x07\x00\x00\x00\x00\x00\x00\x00" +
		"\x01\x03\x02\x00\x01\x00\x00\x00\x04\x00\x00\x00\x00\x00\x00\x00" +
		"\x03\xFF\x00\x00\x09\x00\x00\x00\x00\x00\x00\x00\x00\x00\x00\x00"
	b, e := record.Encode(plain())
	if e != api.OK || len(b) != api.SectorBytes || !crc.Check(b) {
		t.Fatalf("%x %d", b, e)
	}
	if string(b[4:4+len(want)]) != want || bytes.Count(b[4+len(want):], []byte{0}) != 124-len(want) {
		t.Errorf("%x", b)
	}
}

// P9.1: whole sectors in which one number is one that may not be.
func TestDecodeBroken(t *testing.T) {
	full := plain()
	for len(full.Deltas) < api.RecordDeltas {
		full.Deltas = append(full.Deltas, put(1, 1, 1, 1))
	}
	wrong := map[int][][]byte{
		0: {[]byte("RJ"), []byte("jr"), []byte("JS"), {0, 0}},
		1: {low(1, 2), low(1, 255)},
		2: {low(1, 0), low(1, 5), low(1, 7), low(1, 255)},
		3: {low(4, 0), low(4, 1<<31+1), low(4, -1)},
		4: {low(8, 1<<40+1), low(8, -1), low(8, math.MinInt), low(8, math.MaxInt)},
		5: {low(8, 1<<40+1), low(8, -1), low(8, math.MinInt), low(8, math.MaxInt)},
	}
	for i, d := range full.Deltas {
		at := 6 + 6*i
		wrong[at] = [][]byte{low(1, 0), low(1, 5), low(1, 255), low(1, api.DeltaBad)}
		wrong[at+1] = [][]byte{low(1, 144), low(1, 254)}
		wrong[at+2] = [][]byte{low(2, 1)}
		wrong[at+4] = [][]byte{low(4, 1025), low(4, -1)}
		wrong[at+5] = [][]byte{low(4, 1), low(4, 1<<24), low(4, 1<<31)}
		if d.Kind == api.DeltaPut {
			wrong[at+1] = append(wrong[at+1], low(1, 255))
			wrong[at+2] = [][]byte{low(2, 0)}
		}
	}
	for place, l := range wrong {
		for _, b := range l {
			p := parts(full)
			p[place] = b
			wantNone(t, "a number that may not be", sealed(t, bytes.Join(p, nil)))
		}
	}
	// What has room in a sector, and may not be all the same.
	for _, d := range []api.Delta{
		{}, {Kind: 5}, put(1, 0, 1, 1), put(1, 1, 255, 1), put(1, 1, 144, 1), put(1, 1, 1, 1025),
		hole(1, 0), {Kind: api.DeltaHole, At: 1, N: 1, Zone: 1}, {Kind: api.DeltaHole, At: 1, N: 1, Off: 1},
		home(1, 144), home(1, 254), {Kind: api.DeltaHome, At: 1, N: 1}, {Kind: api.DeltaHome, At: 1, Off: 1},
		bad(144), bad(255), {Kind: api.DeltaBad, At: 1}, {Kind: api.DeltaBad, N: 1}, {Kind: api.DeltaBad, Off: 1},
	} {
		for i := range 6 {
			r := with(func(r *api.Record) { r.Deltas = slices.Repeat([]api.Delta{hole(1, 1)}, 6) })
			r.Deltas[i] = d
			wantNone(t, "a delta that may not be", sector(t, r))
		}
	}
}

// P9.1: sectors that are not whole, or have more, or less, in them.
func TestDecodeNone(t *testing.T) {
	b := sector(t, plain())
	for _, none := range [][]byte{nil, {}, make([]byte, api.SectorBytes), b[:127], b[4:], append(bytes.Clone(b), 0), bytes.Repeat([]byte{255}, 128)} {
		wantNone(t, "what is no sector of one", none)
	}
	for bit := range 8 * api.SectorBytes {
		x := bytes.Clone(b)
		x[bit/8] ^= 1 << (bit % 8)
		wantNone(t, "a bit is another one", x)
	}
	for n := range 7 {
		body := bytes.Join(parts(with(func(r *api.Record) { r.Deltas = slices.Repeat([]api.Delta{hole(1, 1)}, n) })), nil)
		for i := len(body); i < 124; i++ {
			x := append(bytes.Clone(body), make([]byte, 124-len(body))...)
			x[i] = 1
			wantNone(t, "something behind the deltas", sealed(t, x))
		}
		x := append(bytes.Clone(body), make([]byte, 124-len(body))...)
		x[3] = byte(n + 1)
		wantNone(t, "one delta more than there are", sealed(t, x))
		wantNone(t, "too early", sealed(t, body[1:]))
		wantNone(t, "too late", sealed(t, append([]byte{0}, body...)))
	}
}

// P9.1: records that are the same, and such as are not.
func TestSame(t *testing.T) {
	l := append(whole(), broken()...)
	for i, a := range l {
		for k, b := range l {
			if got, want := record.Same(a, b), isSame(a, b); got != want || i == k && !got {
				t.Errorf("%v, %v: %t", a, b, got)
			}
		}
	}
	for _, x := range []api.Record{
		with(func(r *api.Record) { r.Epoch++ }), with(func(r *api.Record) { r.Seq++ }), with(func(r *api.Record) { r.Upto++ }),
		with(func(r *api.Record) { r.Commit = false }), with(func(r *api.Record) { r.Deltas = r.Deltas[:1] }), with(func(r *api.Record) { r.Deltas = nil }),
		with(func(r *api.Record) { r.Deltas = append(r.Deltas, api.Delta{}) }), with(func(r *api.Record) { slices.Reverse(r.Deltas) }),
		with(func(r *api.Record) { r.Deltas[1].Kind = 9 }), with(func(r *api.Record) { r.Deltas[1].At = -1 }), with(func(r *api.Record) { r.Deltas[1].N = 1 }),
		with(func(r *api.Record) { r.Deltas[1].Zone = 1 }), with(func(r *api.Record) { r.Deltas[1].Off = 1 }),
	} {
		if record.Same(plain(), x) || record.Same(x, plain()) || !record.Same(x, x) {
			t.Errorf("%v", x)
		}
	}
	if !record.Same(api.Record{Epoch: 1, Deltas: nil}, api.Record{Epoch: 1, Deltas: []api.Delta{}}) {
		t.Error("nil and the empty list")
	}
}
