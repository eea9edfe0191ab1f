package band_test

import (
	"bytes"
	"math"
	"slices"
	"testing"

	"thatch/api"
	"thatch/band"
)

// wantWith wants a content with pieces to be what it is byte by byte, and what
// was handed in to be as it was.
func wantWith(t *testing.T, x api.Geom, c []byte, l ...api.Piece) {
	t.Helper()
	want, was := plainWith(c, l), bytes.Clone(c)
	got, e := band.With(x, c, l)
	if e != api.OK || !bytes.Equal(got, want) {
		t.Errorf("%v: %d bytes, %d", x, len(got), e)
	}
	if !bytes.Equal(c, was) {
		t.Errorf("%v: the content handed in is changed", x)
	}
}

// wantRefused wants pieces to be refused.
func wantRefused(t *testing.T, x api.Geom, c []byte, want api.Errno, l ...api.Piece) {
	t.Helper()
	if got, e := band.With(x, c, l); len(got) > 0 || e != want {
		t.Errorf("%v, %v: %d bytes, %d, not %d", x, l, len(got), e, want)
	}
}

// P18.1: a content of bytes 0.
func TestBlank(t *testing.T) {
	for _, x := range wholeGeoms() {
		b := band.Blank(x)
		if !bytes.Equal(b, make([]byte, lenOf(x)*128)) {
			t.Errorf("%v: %d bytes", x, len(b))
		}
	}
	for _, x := range brokenGeoms() {
		if b := band.Blank(x); len(b) > 0 {
			t.Errorf("%v: %d bytes", x, len(b))
		}
	}
}

// P18.1, the chapter's example: sectors 3 and 4 of a blank content.
func TestWithExample(t *testing.T) {
	b, e := band.With(small, band.Blank(small), []api.Piece{put(3, some(2, 9))})
	want := slices.Concat(make([]byte, 3*128), some(2, 9), make([]byte, 10*128))
	if e != api.OK || !bytes.Equal(b, want) {
		t.Error(e)
	}
}

// P18.1: one piece, at each place, of each length, of bytes or a hole.
func TestWithOne(t *testing.T) {
	for _, x := range []api.Geom{small, narrow, g(2, 5, 9, 2, 3)} {
		c := content(x, 3)
		wantWith(t, x, c)
		for at := range lenOf(x) {
			for n := 1; at+n <= lenOf(x); n++ {
				wantWith(t, x, c, put(at, some(n, 77)))
				wantWith(t, x, c, hole(at, n))
				// The one that follows is over it.
				wantWith(t, x, c, put(at, some(n, 77)), hole(0, lenOf(x)))
				wantWith(t, x, c, hole(at, n), put(0, content(x, 55)))
			}
		}
	}
	wide := g(16, 128, 1024, 128, 126)
	wantWith(t, wide, content(wide, 1), put(0, content(wide, 2)), hole(1022, 1), put(1022, some(1, 3)), hole(0, 1000))
}

// P18.1: no list, and empty ones.
func TestWithNone(t *testing.T) {
	c := content(small, 1)
	for _, l := range [][]api.Piece{nil, {}} {
		if b, e := band.With(small, c, l); e != api.OK || !bytes.Equal(b, c) {
			t.Error(e)
		}
	}
	empty := api.Piece{At: 2, N: 3, Hole: true, Bytes: []byte{}}
	wantWith(t, small, c, empty)
}

// P18.1: pieces that may not be, alone, ahead of others, and behind them.
func TestWithRefused(t *testing.T) {
	for _, x := range []api.Geom{small, narrow} {
		c, n := content(x, 3), lenOf(x)
		l := []api.Piece{
			// Not within the band.
			put(n, some(1, 1)), put(n-1, some(2, 1)), put(0, some(n+1, 1)), put(-1, some(1, 1)), put(-1, some(2, 1)), put(-n, some(n, 1)), put(1, some(n, 1)),
			put(math.MinInt, some(1, 1)), put(math.MaxInt, some(1, 1)), put(math.MaxInt, some(2, 1)), put(math.MaxInt-1, some(2, 1)), put(math.MaxInt/128+1, some(1, 1)),
			hole(n, 1), hole(n-1, 2), hole(0, n+1), hole(-1, 1), hole(-1, 2), hole(1, n), hole(math.MinInt, 1), hole(math.MaxInt, 1), hole(1, math.MaxInt), hole(math.MaxInt, math.MaxInt), hole(-1, math.MaxInt), hole(math.MinInt, math.MaxInt),
			// No sectors, or no whole number of them.
			put(0, nil), put(0, []byte{}), put(0, some(1, 1)[:1]), put(0, some(1, 1)[:127]), put(0, some(2, 1)[:129]), put(0, some(2, 1)[:255]), put(n, nil),
			hole(0, 0), hole(0, -1), hole(3, math.MinInt), hole(n, 0), hole(2, -2),
			// Holes with bytes, and others with a number.
			{At: 0, N: 1, Hole: true, Bytes: some(1, 1)}, {At: 0, N: 0, Hole: true, Bytes: some(1, 1)}, {At: 0, N: 2, Hole: true, Bytes: make([]byte, 1)},
			{At: 0, N: 1, Bytes: some(1, 1)}, {At: 0, N: 2, Bytes: some(1, 1)}, {At: 0, N: -1, Bytes: some(1, 1)}, {At: 0, N: 1}, {At: 0, N: math.MinInt, Bytes: some(1, 1)},
		}
		for _, p := range l {
			wantRefused(t, x, c, api.ErrArg, p)
			wantRefused(t, x, c, api.ErrArg, put(0, some(1, 1)), p)
			wantRefused(t, x, c, api.ErrArg, p, hole(1, 1))
			wantRefused(t, x, c, api.ErrArg, hole(0, n), p, put(0, some(1, 1)))
		}
	}
}

// P18.1: what is no content of a band, and no geometry.
func TestWithNoContent(t *testing.T) {
	for _, x := range []api.Geom{small, narrow} {
		c := some(2*lenOf(x), 1)
		for _, n := range []int{0, 1, 127, 128, lenOf(x)*128 - 1, lenOf(x)*128 + 1, (lenOf(x) - 1) * 128, (lenOf(x) + 1) * 128, len(c)} {
			wantRefused(t, x, c[:n], api.ErrArg)
			wantRefused(t, x, c[:n], api.ErrArg, hole(0, 1))
			if b, e := band.Chunk(x, c[:n], 0, 1); len(b) > 0 || e != api.ErrArg {
				t.Errorf("Chunk of %d bytes: %d", n, e)
			}
			// What is no content is told ahead of sectors that there are not.
			if b, e := band.Chunk(x, c[:n], -1, 0); len(b) > 0 || e != api.ErrArg {
				t.Errorf("Chunk of %d bytes: %d", n, e)
			}
		}
		wantRefused(t, x, nil, api.ErrArg)
	}
	for _, x := range brokenGeoms() {
		for _, c := range [][]byte{nil, content(small, 1), some(1, 1)} {
			wantRefused(t, x, c, api.ErrGeom)
			wantRefused(t, x, c, api.ErrGeom, put(0, some(1, 1)))
			wantRefused(t, x, c, api.ErrGeom, put(-1, nil))
			if b, e := band.Chunk(x, c, 0, 1); len(b) > 0 || e != api.ErrGeom {
				t.Errorf("%v: Chunk: %d", x, e)
			}
		}
	}
}

// P18.1: all sectors of a content, however many of them.
func TestChunk(t *testing.T) {
	for _, x := range []api.Geom{small, narrow, g(2, 5, 9, 2, 3)} {
		c := content(x, 6)
		for at := -2; at < lenOf(x)+3; at++ {
			for n := -2; n < lenOf(x)+3; n++ {
				b, e := band.Chunk(x, c, at, n)
				if at >= 0 && n >= 1 && at+n <= lenOf(x) {
					if e != api.OK || !bytes.Equal(b, c[at*128:][:n*128]) {
						t.Errorf("%d from %d: %d bytes, %d", n, at, len(b), e)
					}
				} else if len(b) > 0 || e != api.ErrRange {
					t.Errorf("%d from %d: %d bytes, %d", n, at, len(b), e)
				}
			}
		}
		for _, far := range []int{math.MinInt, math.MinInt + 1, math.MaxInt - 1, math.MaxInt, math.MaxInt/128 + 1} {
			for _, near := range []int{-1, 0, 1, 3, far} {
				for _, two := range [][2]int{{far, near}, {near, far}} {
					if b, e := band.Chunk(x, c, two[0], two[1]); len(b) > 0 || e != api.ErrRange {
						t.Errorf("%v: %d bytes, %d", two, len(b), e)
					}
				}
			}
		}
	}
}

// P18.3: each sector is that of the last piece in which it is, or what it was.
func TestWithMany(t *testing.T) {
	for seed := range 400 {
		number := numbers(uint64(seed))
		x := []api.Geom{small, narrow, g(2, 5, 9, 2, 3), g(5, 9, 17, 3, 4)}[number(4)]
		was := content(x, number(256))
		var l []api.Piece
		for range number(12) {
			at := number(lenOf(x))
			n := 1 + number(lenOf(x)-at)
			if number(3) == 0 {
				l = append(l, hole(at, n))
			} else {
				l = append(l, put(at, some(n, number(256))))
			}
		}
		got, e := band.With(x, was, l)
		if e != api.OK || len(got) != len(was) {
			t.Fatal(e)
		}
		for i := range lenOf(x) {
			want := was[i*128:][:128]
			for _, p := range l {
				n := p.N + len(p.Bytes)/128
				if i < p.At || i >= p.At+n {
					continue
				}
				want = make([]byte, 128)
				if !p.Hole {
					want = p.Bytes[(i-p.At)*128:][:128]
				}
			}
			if !bytes.Equal(got[i*128:][:128], want) {
				t.Fatalf("seed %d: sector %d", seed, i)
			}
		}
	}
}

// R3: what is handed in is neither changed nor kept, nor is the room behind it;
// each answer is new, its spare room too.
func TestNothingShared(t *testing.T) {
	room := some(lenOf(small)+2, 5)
	piece := some(4, 9)
	wasRoom, wasPiece := bytes.Clone(room), bytes.Clone(piece)
	c := room[:lenOf(small)*128]
	l := []api.Piece{put(2, piece[:256]), hole(7, 1)}
	for range 2 {
		with, e := band.With(small, c, l)
		if e != api.OK || !bytes.Equal(with, plainWith(wasRoom[:len(c)], l)) {
			t.Error("With", e)
		}
		clear(with[:cap(with)])
		same, e := band.With(small, c, nil)
		if e != api.OK || !bytes.Equal(same, c) {
			t.Error("With nothing", e)
		}
		clear(same[:cap(same)])
		chunk, e := band.Chunk(small, c, 3, 4)
		if e != api.OK || !bytes.Equal(chunk, wasRoom[3*128:7*128]) {
			t.Error("Chunk", e)
		}
		clear(chunk[:cap(chunk)])
		blank := band.Blank(small)
		if !bytes.Equal(blank, make([]byte, len(c))) {
			t.Error("Blank")
		}
		blank = blank[:cap(blank)]
		copy(blank, wasRoom)
		if !bytes.Equal(room, wasRoom) || !bytes.Equal(piece, wasPiece) || l[0].At != 2 || len(l[0].Bytes) != 256 || l[1].N != 1 {
			t.Error("what was handed in is changed")
		}
	}
}
