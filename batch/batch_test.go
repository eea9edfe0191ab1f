package batch_test

import (
	"math"
	"slices"
	"testing"

	"thatch/api"
	"thatch/batch"
	"thatch/crc"
)

// P16.1: which batches may be, and that there are no sectors of others.
func TestMay(t *testing.T) {
	for _, b := range wholeBatches() {
		if !batch.May(small, b) {
			t.Errorf("%v may not be", b)
		}
	}
	for _, b := range brokenBatches() {
		if batch.May(small, b) {
			t.Errorf("%v may be", b)
		}
		n := 0
		for _, x := range b.Spans {
			if x.N > 0 && x.N < 100 {
				n += x.N
			}
		}
		for _, content := range [][]byte{nil, some(128*n, 1)} {
			if l, e := batch.Encode(small, b, content); e != api.ErrArg || len(l) > 0 {
				t.Errorf("%v: %d bytes, %d", b, len(l), e)
			}
		}
	}
	for _, x := range brokenGeoms() {
		for _, b := range append(wholeBatches(), brokenBatches()...) {
			if batch.May(x, b) {
				t.Errorf("%v may be of %v", b, x)
			}
		}
	}
}

// P16.1: the edges of each geometry: the last sector, and what is written at once.
func TestMayGeoms(t *testing.T) {
	for _, x := range wholeGeoms() {
		n, run := sectorsOf(x), runOf(x)
		for _, c := range []struct {
			b    api.Batch
			want bool
		}{
			{data(1, s(n-1, 1)), true}, {data(1, s(n, 1)), false}, {data(1, s(n-1, 2)), false},
			{hole(1, s(n-1, 1)), true}, {hole(1, s(n, 1)), false}, {hole(1, s(n-1, 2)), false},
			{data(1, s(0, run)), true}, {data(1, s(n-run, run)), true}, {data(1, s(0, run+1)), false}, {data(1, s(n-run-1, run+1)), false},
			{data(1, s(0, run-1), s(n-1, 1)), true}, {data(1, s(0, run), s(n-1, 1)), false},
			{hole(1, s(0, min(n, 4096))), true}, {hole(1, s(n-min(n, 4096), min(n, 4096))), true}, {hole(1, s(0, n)), n <= 4096},
		} {
			if batch.May(x, c.b) != c.want {
				t.Errorf("%v of %v: not %t", c.b, x, c.want)
			}
		}
	}
}

// P16.1: MaxExtent, which is no bound to what goes over a multiple of it.
func TestMayLong(t *testing.T) {
	for _, c := range []struct {
		b    api.Batch
		want bool
	}{
		{hole(1, s(0, 4096)), true}, {hole(1, s(0, 4097)), false}, {hole(1, s(1, 4096)), true}, {hole(1, s(1, 4097)), false}, {hole(1, s(4000, 200)), true}, {hole(1, s(10226, 4096)), true}, {hole(1, s(10225, 4097)), false},
		{hole(1, s(0, 4096), s(4096, 4096), s(8192, 4096), s(12288, 2034)), true}, {hole(1, s(0, 4096), s(4095, 4096)), false}, {hole(1, s(0, 4096), s(4096, 4097)), false},
		{data(1, s(4092, 8)), true}, {data(1, s(4092, 9)), false}, {data(1, s(0, 4096)), false},
	} {
		if batch.May(wide, c.b) != c.want {
			t.Errorf("%v: not %t", c.b, c.want)
		}
	}
}

// P16.1: how many sectors, of batches that may not be too.
func TestSectors(t *testing.T) {
	for _, b := range wholeBatches() {
		if got := batch.Sectors(b); got != 1+bytesOf(b)/128 {
			t.Errorf("%v: %d", b, got)
		}
	}
	const most = 1 << 20
	for _, c := range []struct {
		spans []api.Span
		want  int
	}{
		{nil, 1}, {[]api.Span{s(5, 3)}, 4}, {[]api.Span{s(5, 3), s(5, 3)}, 7}, {singles(0, 20), 21}, {[]api.Span{s(-1, 2), s(math.MaxInt, 3)}, 6},
		{[]api.Span{s(0, 0)}, 1}, {[]api.Span{s(0, -1)}, 1}, {[]api.Span{s(0, -5), s(0, 3)}, 4}, {[]api.Span{s(0, 3), s(0, -5)}, 4}, {[]api.Span{s(0, math.MinInt), s(0, 3), s(0, math.MinInt)}, 4},
		{[]api.Span{s(0, most)}, 1 + most}, {[]api.Span{s(0, most-1)}, most}, {[]api.Span{s(0, most+1)}, 1 + most}, {[]api.Span{s(0, math.MaxInt)}, 1 + most}, {[]api.Span{s(0, math.MaxInt), s(0, math.MaxInt)}, 1 + most},
		{[]api.Span{s(0, most-1), s(0, 1)}, 1 + most}, {[]api.Span{s(0, most-1), s(0, 2)}, 1 + most}, {[]api.Span{s(0, most), s(0, 1)}, 1 + most}, {[]api.Span{s(0, most/2), s(0, most/2)}, 1 + most}, {[]api.Span{s(0, most/2), s(0, -7), s(0, most/2-1)}, most},
		{[]api.Span{s(0, 7), s(0, math.MaxInt), s(0, -1), s(0, 7)}, 1 + most},
	} {
		if got := batch.Sectors(data(1, c.spans...)); got != c.want {
			t.Errorf("%v: %d, not %d", c.spans, got, c.want)
		}
		for _, kind := range []int{math.MinInt, -1, 0, api.BatchHole, 3, math.MaxInt} {
			if got := batch.Sectors(api.Batch{Seq: 1, Kind: kind, Spans: c.spans}); got != 1 {
				t.Errorf("%v of kind %d: %d", c.spans, kind, got)
			}
		}
	}
}

// P16.2: what batches mean.
func TestDeltas(t *testing.T) {
	put := func(at, n, off int) api.Delta {
		return api.Delta{Kind: api.DeltaPut, At: at, N: n, Zone: 4, Off: off}
	}
	nothing := func(at, n int) api.Delta { return api.Delta{Kind: api.DeltaHole, At: at, N: n} }
	for _, c := range []struct {
		b    api.Batch
		off  int
		want []api.Delta
	}{
		{data(9, s(5, 3)), 2, []api.Delta{put(5, 3, 3)}},
		{data(9, s(5, 3)), 0, []api.Delta{put(5, 3, 1)}},
		{data(9, s(3, 2), s(14, 3)), 2, []api.Delta{put(3, 2, 3), put(14, 3, 5)}},
		{data(9, s(14, 3), s(3, 2), s(0, 1), s(44, 1)), 9, []api.Delta{put(14, 3, 10), put(3, 2, 13), put(0, 1, 15), put(44, 1, 16)}},
		{hole(9, s(5, 3)), 2, []api.Delta{nothing(5, 3)}},
		{hole(9, s(30, 5), s(0, 20), s(22, 1)), 2, []api.Delta{nothing(30, 5), nothing(0, 20), nothing(22, 1)}},
		{data(9), 2, nil},
		{hole(9), 2, nil},
	} {
		if got := batch.Deltas(c.b, 4, c.off); !slices.Equal(got, c.want) {
			t.Errorf("%v at %d: %v, not %v", c.b, c.off, got, c.want)
		}
		if c.b.Kind != api.BatchData {
			continue
		}
		for _, kind := range []int{math.MinInt, -1, 0, 3, 4, math.MaxInt} {
			b := clone(c.b)
			b.Kind = kind
			if got := batch.Deltas(b, 4, c.off); !slices.Equal(got, c.want) {
				t.Errorf("%v at %d: %v, not %v", b, c.off, got, c.want)
			}
		}
	}
	// Whatever the numbers are, there is an answer.
	for _, n := range []int{math.MinInt, -1, 0, math.MaxInt} {
		b := data(n, s(n, n), s(n, n))
		if len(batch.Deltas(b, n, n)) != 2 {
			t.Error(n)
		}
	}
}

// P16.1, P16.2: a delta names just the sectors in which the data were put.
func TestDeltasPlaces(t *testing.T) {
	for seed := range 300 {
		number := numbers(uint64(seed))
		b := someBatch(small, number)
		content := some(bytesOf(b), seed)
		l, e := batch.Encode(small, b, content)
		if e != api.OK {
			t.Fatal(e)
		}
		off := number(9)
		zone := slices.Concat(make([]byte, 128*off), l)
		for i, d := range batch.Deltas(b, 5, off) {
			if d.At != b.Spans[i].At || d.N != b.Spans[i].N {
				t.Errorf("%v: %v", b, d)
			}
			if b.Kind == api.BatchHole {
				continue
			}
			if d.Zone != 5 || string(zone[128*d.Off:128*(d.Off+d.N)]) != string(content[:128*d.N]) {
				t.Errorf("%v: %v", b, d)
			}
			content = content[128*d.N:]
		}
	}
}

// P16.1: what is the same.
func TestSame(t *testing.T) {
	all := append(wholeBatches(), brokenBatches()...)
	for i, a := range all {
		for _, b := range all[i:] {
			want := isSame(a, b)
			if batch.Same(a, clone(b)) != want || batch.Same(clone(b), a) != want {
				t.Errorf("%v, %v: not %t", a, b, want)
			}
		}
	}
	if !batch.Same(api.Batch{}, api.Batch{Spans: []api.Span{}}) {
		t.Error("no spans")
	}
	for _, b := range []api.Batch{data(9, s(3, 2), s(14, 3)), data(8, s(3, 2)), hole(9, s(3, 2)), data(9, s(4, 2)), data(9, s(3, 3)), data(9), {}} {
		if batch.Same(b, data(9, s(3, 2))) {
			t.Errorf("%v", b)
		}
	}
}

// P16.1: geometries that may not be come ahead of all else.
func TestGeomAhead(t *testing.T) {
	b := data(7, s(0, 1))
	content := some(128, 1)
	l := sectors(t, b, content)
	for _, x := range brokenGeoms() {
		for _, c := range []api.Batch{b, {}, data(0, s(0, 1)), hole(7, s(-1, 1))} {
			if got, e := batch.Encode(x, c, content); e != api.ErrGeom || len(got) > 0 {
				t.Errorf("%v: Encode %d", x, e)
			}
		}
		for _, some := range [][]byte{nil, {1, 2, 3}, l[:128], l, l[:200]} {
			if c, sum, e := batch.Head(x, some); e != api.ErrGeom || !isSame(c, api.Batch{}) || sum != 0 {
				t.Errorf("%v: Head %d", x, e)
			}
			if c, d, e := batch.Decode(x, some); e != api.ErrGeom || !isSame(c, api.Batch{}) || len(d) > 0 {
				t.Errorf("%v: Decode %d", x, e)
			}
			wantScan(t, "a geometry", x, some, nil)
		}
		for _, spans := range [][]api.Span{nil, {s(0, 1)}, {s(0, 0)}, {s(-1, 1)}} {
			for _, seq := range []int{0, 1, top + 1} {
				if got, e := batch.Holes(x, seq, spans); e != api.ErrGeom || len(got) > 0 {
					t.Errorf("%v: Holes %d", x, e)
				}
			}
		}
	}
}

// wipe changes a list, and the room behind its end.
func wipe[T any](l []T, with T) {
	l = l[:cap(l)]
	for i := range l {
		l[i] = with
	}
}

// R3: what is handed in stays as it is and is not kept; answers are new, and
// share nothing with one another.
func TestNothingShared(t *testing.T) {
	spans := []api.Span{s(3, 2), s(14, 3), s(30, 1), s(40, 1)}
	spansWere := slices.Clone(spans)
	b := data(7, spans[:2]...)
	room := slices.Concat(some(5*128, 1), some(5*128, 9))
	roomWas := slices.Clone(room)
	content := room[:5*128]
	want := sectors(t, data(7, s(3, 2), s(14, 3)), roomWas[:5*128])
	wantHoles := []api.Batch{hole(50, s(3, 2), s(14, 3)), hole(51, s(14, 3))}
	for range 2 {
		batch.May(small, b)
		batch.Same(b, b)
		l, e := batch.Encode(small, b, content)
		if e != api.OK || !slices.Equal(l, want) {
			t.Error("Encode", e)
		}
		wipe(l, 0xFF)
		deltas := batch.Deltas(b, 4, 2)
		if len(deltas) != 2 || deltas[1] != (api.Delta{Kind: api.DeltaPut, At: 14, N: 3, Zone: 4, Off: 5}) {
			t.Error("Deltas", deltas)
		}
		wipe(deltas, api.Delta{})
		holes, e := batch.Holes(small, 50, append(spans[:2:2], s(14, 3)))
		if e != api.OK || len(holes) != 2 || !isSame(holes[0], wantHoles[0]) || !isSame(holes[1], wantHoles[1]) {
			t.Error("Holes", holes, e)
		}
		wipe(holes[0].Spans, s(-1, -1))
		if !isSame(holes[1], wantHoles[1]) {
			t.Error("holes share spans", holes[1])
		}
		wipe(holes[1].Spans, s(-1, -1))
		wipe(holes, api.Batch{})
	}
	batch.Holes(small, 50, spans[:3])
	if !slices.Equal(spans, spansWere) || !slices.Equal(room, roomWas) {
		t.Error("what was handed in is changed")
	}
}

// R3: what is decoded is new, and so is what an iterator goes over.
func TestNothingSharedDecoded(t *testing.T) {
	first, second := data(7, s(3, 2), s(14, 3)), hole(8, s(0, 20), s(30, 2))
	content := some(5*128, 3)
	room := slices.Concat(sectors(t, first, content), sectors(t, second, nil), make([]byte, 256))
	was := slices.Clone(room)
	l := room[:7*128]
	seq := batch.Scan(small, l)
	want := []placed{{0, first}, {6, second}}
	for range 2 {
		h, sum, e := batch.Head(small, l[:128])
		if e != api.OK || sum != crc.Sum(content) || !isSame(h, first) {
			t.Error("Head", h, sum, e)
		}
		wipe(h.Spans, s(-1, -1))
		b, d, e := batch.Decode(small, l)
		if e != api.OK || !isSame(b, first) || !slices.Equal(d, content) {
			t.Error("Decode", b, e)
		}
		wipe(b.Spans, s(-1, -1))
		wipe(d, 0xFF)
		all := found(seq)
		if !samePlaced(all, want) {
			t.Error("Scan", all)
		}
		wipe(all[0].batch.Spans, s(-1, -1))
		if !isSame(all[1].batch, second) {
			t.Error("batches share spans")
		}
		wipe(all[1].batch.Spans, s(-1, -1))
	}
	if !slices.Equal(room, was) {
		t.Error("what was handed in is changed")
	}
	wipe(room, 0)
	if got := found(seq); !samePlaced(got, want) {
		t.Error("the sectors are kept", got)
	}
}
