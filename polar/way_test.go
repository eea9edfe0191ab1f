package polar_test

import (
	"math"
	"slices"
	"testing"

	"thatch/api"
	"thatch/polar"
)

// plainCost is a way's cost, one step of the platter after the other.
func plainCost(a, b complex128, track int) int {
	tracks := int(real(a)) - int(real(b))
	seek := 8 * max(tracks, -tracks)
	under := (int(imag(a)) + seek) % track
	wait := 0
	for under != int(imag(b)) {
		under = (under + 1) % track
		wait++
	}
	return seek + wait
}

// P4.3, P4.4: what a way costs, and the way back.
func TestCost(t *testing.T) {
	for _, track := range []int{1, 2, 3, 7, 8, 16, 100, 1024} {
		for _, a := range places() {
			for _, b := range places() {
				want := 0
				if onPlatter(a, track) && onPlatter(b, track) {
					want = plainCost(a, b, track)
				}
				if got := polar.Cost(a, b, track); got != want {
					t.Errorf("%v to %v by %d: %d, not %d", a, b, track, got, want)
				}
			}
			if onPlatter(a, track) && polar.Cost(a, a, track) != 0 {
				t.Errorf("%v to itself by %d: %d", a, track, polar.Cost(a, a, track))
			}
		}
	}
}

// P4.3: all ways on tracks that are short.
func TestCostNear(t *testing.T) {
	for track := 1; track < 10; track++ {
		for a := range 4 * track {
			for b := range 4 * track {
				x, y := polar.Place(a, track), polar.Place(b, track)
				if got, want := polar.Cost(x, y, track), plainCost(x, y, track); got != want {
					t.Errorf("%v to %v by %d: %d, not %d", x, y, track, got, want)
				}
				there, back := polar.Cost(x, y, track), polar.Cost(y, x, track)
				seek := 8 * max(a/track-b/track, b/track-a/track)
				if there < seek || there >= seek+track || back < seek || back >= seek+track {
					t.Errorf("%v and %v by %d: %d there, %d back", x, y, track, there, back)
				}
			}
		}
	}
	if got := polar.Cost(1+3i, 3+1i, 16); got != 30 {
		t.Errorf("two tracks on: %d", got)
	}
	if got := polar.Cost(0, most+1023i, 1024); got != 8*most+1023 {
		t.Errorf("the longest way: %d", got)
	}
}

// P4.3: ways that are none.
func TestCostNone(t *testing.T) {
	for _, track := range noTracks {
		for _, z := range []complex128{0, 5, 7 + 1i} {
			if polar.Cost(0, z, track) != 0 || polar.Cost(z, 3, track) != 0 {
				t.Errorf("%v by %d costs", z, track)
			}
		}
	}
	for _, z := range append(noPlaces(), -1, -1i, 2-3i, 4+16i, -most, 16i, 3+most*1i) {
		if polar.Cost(z, 5+1i, 16) != 0 || polar.Cost(5+1i, z, 16) != 0 {
			t.Errorf("%v costs", z)
		}
	}
}

// plainWalk goes over spans, one sector after the other.
func plainWalk(from complex128, l []api.Span, track int) (int, complex128) {
	cost, head := 0, from
	for _, s := range l {
		if s.At < 0 || s.N < 1 || s.At > 1<<20 || s.N > 1<<20 || s.At+s.N > 1<<20 {
			continue
		}
		for i := range s.N {
			z := complex(float64((s.At+i)/track), float64((s.At+i)%track))
			if i == 0 {
				cost += plainCost(head, z, track)
			}
			cost++
		}
		end := s.At + s.N
		head = complex(float64(end/track), float64(end%track))
	}
	return cost, head
}

// passed are spans that a walk passes over.
func passed() []api.Span {
	return []api.Span{
		{At: -1, N: 9}, {At: 5, N: 0}, {At: 0, N: 0}, {At: 5, N: -1}, {At: most, N: 1}, {At: most - 1, N: 2}, {At: 0, N: most + 1},
		{At: 1 << 40, N: 0}, {At: 1 << 39, N: 5}, {At: math.MaxInt, N: 1}, {At: 1, N: math.MaxInt}, {At: math.MinInt, N: math.MinInt}, {At: most, N: 0},
	}
}

// P4.3: the head's way over spans.
func TestWalk(t *testing.T) {
	x := uint32(7)
	next := func(n int) int {
		x = x*1664525 + 1013904223
		return int(x>>8) % n
	}
	for _, track := range []int{1, 2, 5, 16, 1000, 1024} {
		for range 200 {
			var l []api.Span
			for range next(6) {
				l = append(l, api.Span{At: next(5000), N: next(40)})
				if next(4) == 0 {
					l = append(l, passed()[next(len(passed()))])
				}
			}
			from := polar.Place(next(5000), track)
			cost, head := polar.Walk(from, l, track)
			wantCost, wantHead := plainWalk(from, l, track)
			if cost != wantCost || head != wantHead {
				t.Errorf("%v by %d from %v: %d %v, not %d %v", l, track, from, cost, head, wantCost, wantHead)
			}
		}
	}
}

// P4.3: known walks, and the platter's end.
func TestWalkKnown(t *testing.T) {
	for _, c := range []struct {
		from  complex128
		l     []api.Span
		track int
		cost  int
		head  complex128
	}{
		{3 + 4i, nil, 16, 0, 3 + 4i},
		{3 + 4i, passed(), 16, 0, 3 + 4i},
		{0, []api.Span{{At: 0, N: 4}, {At: 6, N: 2}, {At: 32, N: 1}, {At: -1, N: 9}}, 16, 33, 2 + 1i},
		{0, []api.Span{{At: 0, N: 16}}, 16, 16, 1},
		{0, []api.Span{{At: 0, N: most}}, 1, most, most},
		{0, []api.Span{{At: most - 1, N: 1}}, 1, 8*(most-1) + 1, most},
		{most + 1023i, []api.Span{{At: 1023, N: 1}}, 1024, 8*most + 1, 1},
		{0, []api.Span{{At: 5, N: 1}, {At: 5, N: 1}}, 10, 5 + 1 + 9 + 1, 6i},
	} {
		cost, head := polar.Walk(c.from, c.l, c.track)
		if cost != c.cost || head != c.head {
			t.Errorf("%v from %v: %d %v, not %d %v", c.l, c.from, cost, head, c.cost, c.head)
		}
	}
}

// P4.3: walks from nowhere, and on no tracks.
func TestWalkNone(t *testing.T) {
	l := []api.Span{{At: 7, N: 3}, {At: 90, N: 4}}
	none := func(from complex128, track int) {
		t.Helper()
		for _, m := range [][]api.Span{nil, l} {
			if cost, head := polar.Walk(from, m, track); cost != 0 || head != 0 {
				t.Errorf("from %v by %d: %d %v", from, track, cost, head)
			}
		}
	}
	for _, track := range noTracks {
		none(0, track)
		none(5, track)
	}
	for _, z := range append(noPlaces(), -1, -1i, 2-3i, 4+16i, -most, 16i, 3+most*1i) {
		none(z, 16)
	}
}

// P4.3: numbers from the head on, and back from the lowest.
func TestSweep(t *testing.T) {
	l := []int{3, 12, 10, 7, 30, 3, -5, math.MaxInt, math.MinInt, 0, 30, 11, 9}
	rising := slices.Sorted(slices.Values(l))
	for _, head := range []int{math.MinInt, math.MinInt + 1, -6, -5, -4, 0, 3, 9, 10, 11, 12, 13, 30, 31, math.MaxInt} {
		var want []int
		for _, x := range rising {
			if x >= head {
				want = append(want, x)
			}
		}
		for _, x := range rising {
			if x < head {
				want = append(want, x)
			}
		}
		if got := polar.Sweep(head, l); !slices.Equal(got, want) {
			t.Errorf("from %d: %v, not %v", head, got, want)
		}
	}
	for _, l := range [][]int{nil, {}} {
		if got := polar.Sweep(3, l); len(got) != 0 {
			t.Errorf("nothing: %v", got)
		}
	}
	if got := polar.Sweep(10, []int{3, 12, 10, 7, 30, 3}); !slices.Equal(got, []int{10, 12, 30, 3, 3, 7}) {
		t.Errorf("a known one: %v", got)
	}
}
