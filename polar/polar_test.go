package polar_test

import (
	"math"
	"slices"
	"testing"

	"thatch/api"
	"thatch/polar"
)

const most = api.MaxPolar

// noTracks are numbers of sectors that no track has.
var noTracks = []int{math.MinInt, -1024, -1, 0, 1025, 2048, math.MaxInt}

// noPlaces are numbers that are no places.
func noPlaces() []complex128 {
	bad := []float64{0.5, -0.5, 3.25, most + 1, -most - 1, most + 0.5, most - 0.5, 1e300, -1e300, 1e-300, math.Inf(1), math.Inf(-1), math.NaN()}
	var l []complex128
	for _, x := range bad {
		for _, y := range append([]float64{0, 1, -3, most}, bad...) {
			l = append(l, complex(x, y), complex(y, x))
		}
	}
	return l
}

// places are places all around.
func places() []complex128 {
	parts := []float64{0, math.Copysign(0, -1), 1, -1, 2, 7, -13, 1023, 1024, most - 1, most, -most}
	var l []complex128
	for _, x := range parts {
		for _, y := range parts {
			l = append(l, complex(x, y))
		}
	}
	return l
}

// onPlatter tells whether a sector is at a place.
func onPlatter(z complex128, track int) bool {
	return real(z) >= 0 && imag(z) >= 0 && imag(z) < float64(track)
}

// P4.1: what is a place.
func TestMay(t *testing.T) {
	for _, z := range noPlaces() {
		if polar.May(z) {
			t.Errorf("%v is one", z)
		}
	}
	for _, z := range places() {
		if !polar.May(z) {
			t.Errorf("%v is none", z)
		}
	}
}

// P4.1, P4.4: the place of a sector, and the sector there.
func TestPlaceSector(t *testing.T) {
	if got := polar.Place(25, 10); got != 2+5i {
		t.Errorf("the example: %v", got)
	}
	sectors := []int{0, 1, 2, 9, 10, 11, 1023, 1024, 1025, 99999, most - 1, most}
	for _, track := range []int{1, 2, 3, 10, 16, 1000, 1023, 1024} {
		for _, at := range sectors {
			want := complex(float64(at/track), float64(at-at/track*track))
			z := polar.Place(at, track)
			if z != want || polar.Sector(z, track) != at {
				t.Errorf("sector %d by %d: %v, and there %d", at, track, z, polar.Sector(z, track))
			}
		}
		for _, at := range []int{-1, -10, math.MinInt, most + 1, 1 << 40, math.MaxInt} {
			if z := polar.Place(at, track); z != 0 {
				t.Errorf("sector %d by %d: %v", at, track, z)
			}
		}
	}
	for _, track := range noTracks {
		for _, at := range append(sectors, -1) {
			if z := polar.Place(at, track); z != 0 {
				t.Errorf("sector %d by %d: %v", at, track, z)
			}
		}
	}
}

// P4.1: the sector at a place, or none.
func TestSector(t *testing.T) {
	for _, track := range []int{1, 2, 7, 16, 1024} {
		for _, z := range places() {
			want := -1
			if onPlatter(z, track) {
				want = int(real(z))*track + int(imag(z))
			}
			if got := polar.Sector(z, track); got != want {
				t.Errorf("%v by %d: %d, not %d", z, track, got, want)
			}
		}
		for _, z := range noPlaces() {
			if got := polar.Sector(z, track); got != -1 {
				t.Errorf("%v by %d: %d", z, track, got)
			}
		}
		last := complex(3, float64(track-1))
		if polar.Sector(last, track) != 4*track-1 || polar.Sector(last+1i, track) != -1 || polar.Sector(last-4, track) != -1 {
			t.Errorf("the end of a track of %d", track)
		}
	}
	for _, track := range noTracks {
		for _, z := range []complex128{0, 1, 1i, 5 + 5i} {
			if got := polar.Sector(z, track); got != -1 {
				t.Errorf("%v by %d: %d", z, track, got)
			}
		}
	}
}

// P4.2, P4.4: quarters, forth and back.
func TestTurn(t *testing.T) {
	if got := polar.Turn(2+5i, 1); got != -5+2i {
		t.Errorf("the example: %v", got)
	}
	for _, z := range places() {
		x, y := real(z), imag(z)
		want := []complex128{z, complex(-y, x), complex(-x, -y), complex(y, -x)}
		for q := -9; q < 10; q++ {
			if got := polar.Turn(z, q); got != want[(q+40)%4] {
				t.Errorf("%v by %d: %v", z, q, got)
			}
		}
		for q, i := range map[int]int{math.MinInt: 0, math.MinInt + 1: 1, math.MinInt + 2: 2, math.MinInt + 3: 3, math.MaxInt: 3, math.MaxInt - 1: 2, 1 << 40: 0} {
			if got := polar.Turn(z, q); got != want[i] {
				t.Errorf("%v by %d: %v", z, q, got)
			}
		}
		around := z
		for range 4 {
			around = polar.Turn(around, 1)
		}
		if around != z {
			t.Errorf("%v four times: %v", z, around)
		}
	}
	for _, z := range noPlaces() {
		for _, q := range []int{-1, 0, 1, 2, 4} {
			if got := polar.Turn(z, q); got != 0 {
				t.Errorf("%v by %d: %v", z, q, got)
			}
		}
	}
}

// P4.2: how far places are apart, and from 0.
func TestApartNorm(t *testing.T) {
	abs := func(x int) int { return max(x, -x) }
	for _, a := range places() {
		x, y := int(real(a)), int(imag(a))
		if got := polar.Norm(a); got != x*x+y*y {
			t.Errorf("%v: %d", a, got)
		}
		for _, b := range places() {
			if got, want := polar.Apart(a, b), abs(x-int(real(b)))+abs(y-int(imag(b))); got != want {
				t.Errorf("%v and %v: %d, not %d", a, b, got, want)
			}
		}
	}
	for _, z := range noPlaces() {
		if polar.Norm(z) != 0 || polar.Apart(z, z) != 0 || polar.Apart(z, 5) != 0 || polar.Apart(5i, z) != 0 {
			t.Errorf("%v: %d, %d, %d", z, polar.Norm(z), polar.Apart(z, 5), polar.Apart(5i, z))
		}
	}
	if polar.Norm(3+4i) != 25 || polar.Apart(3+4i, -1i) != 8 || polar.Apart(-most-most*1i, most+most*1i) != 4*most {
		t.Error("known ones")
	}
}

// R3: places and ways are numbers, lists alone could be shared.
func TestNothingShared(t *testing.T) {
	room := []int{5, 1, 9, 2, 2, 7, 4}
	was := slices.Clone(room)
	one, two := polar.Sweep(4, room[:6]), polar.Sweep(4, room[:6])
	clear(one[:cap(one)])
	if !slices.Equal(two, []int{5, 7, 9, 1, 2, 2}) || !slices.Equal(room, was) {
		t.Errorf("%v, %v", two, room)
	}
	spans := []api.Span{{At: 40, N: 3}, {At: -1, N: 1}, {At: 7, N: 2}, {At: 1, N: 1}}
	before := slices.Clone(spans)
	polar.Walk(0, spans[:3], 10)
	if !slices.Equal(spans, before) {
		t.Errorf("%v", spans)
	}
}
