package victim_test

import (
	"math"
	"testing"

	"thatch/api"
	"thatch/victim"
)

// P19.3: steps that were reckoned by hand; the chapter's example is the first.
func TestStepsByHand(t *testing.T) {
	for _, c := range []struct {
		x                  api.Geom
		bands, chunk, want int
	}{
		{small, 1, 4, 9}, {small, 0, 4, 2}, {small, 3, 4, 23}, {small, 2, 4, 16},
		{small, 1, 1, 20}, {small, 1, 7, 8}, {small, 1, 8, 7}, {small, 1, 14, 7}, {small, 1, 15, 6}, {small, 1, 16, 6}, {small, 3, math.MaxInt, 14},
		{g(16, 128, 1024, 2, 1), 126, 1, 2 + 126*1026}, {g(16, 128, 1024, 2, 1), 126, 1023, 2 + 126*4}, {g(16, 128, 1024, 2, 1), 126, 1022, 2 + 126*5},
	} {
		if n := victim.Steps(c.x, c.bands, c.chunk); n != c.want {
			t.Errorf("%v: %d bands by %d: %d, not %d", c.x, c.bands, c.chunk, n, c.want)
		}
	}
	for _, c := range []struct {
		x           api.Geom
		chunk, want int
	}{
		{small, 4, 50}, {small, 7, 44}, {small, 1, 116}, {small, math.MaxInt, 32}, {g(2, 4, 8, 4, 2), 7, 16},
	} {
		if n := victim.Bound(c.x, c.chunk); n != c.want {
			t.Errorf("%v by %d: %d, not %d", c.x, c.chunk, n, c.want)
		}
	}
}

// P19.3: steps counted one by one.
func TestSteps(t *testing.T) {
	for _, x := range wholeGeoms() {
		for _, chunk := range []int{1, 2, 3, 4, 6, 7, 8, 13, x.Len / 2, x.Len - 2, x.Len - 1, x.Len, 4096, 4097, math.MaxInt - 1, math.MaxInt} {
			for _, bands := range []int{0, 1, 2, bandsOf(x) / 2, bandsOf(x) - 1, bandsOf(x)} {
				if bands > bandsOf(x) {
					continue
				}
				if n, want := victim.Steps(x, bands, chunk), plainSteps(x, bands, chunk); n != want {
					t.Errorf("%v: %d bands by %d: %d, not %d", x, bands, chunk, n, want)
				}
			}
			all := plainSteps(x, bandsOf(x), chunk)
			if n, want := victim.Bound(x, chunk), all+all+4; n != want {
				t.Errorf("%v by %d: %d, not %d", x, chunk, n, want)
			}
		}
	}
}

// P19.3: 0 of what may not be.
func TestStepsNone(t *testing.T) {
	for _, x := range brokenGeoms() {
		for _, chunk := range []int{-1, 0, 1, 4, math.MaxInt} {
			for _, bands := range []int{-1, 0, 1} {
				if n := victim.Steps(x, bands, chunk); n != 0 {
					t.Errorf("%v: %d bands by %d: %d", x, bands, chunk, n)
				}
			}
			if n := victim.Bound(x, chunk); n != 0 {
				t.Errorf("%v by %d: %d", x, chunk, n)
			}
		}
	}
	for _, x := range wholeGeoms() {
		for _, chunk := range noChunks() {
			for _, bands := range []int{0, 1, bandsOf(x)} {
				if n := victim.Steps(x, bands, chunk); n != 0 {
					t.Errorf("%v: %d bands by %d: %d", x, bands, chunk, n)
				}
			}
			if n := victim.Bound(x, chunk); n != 0 {
				t.Errorf("%v by %d: %d", x, chunk, n)
			}
		}
		for _, bands := range []int{math.MinInt, -1, bandsOf(x) + 1, x.Seq, math.MaxInt} {
			if n := victim.Steps(x, bands, 4); n != 0 {
				t.Errorf("%v: %d bands: %d", x, bands, n)
			}
		}
	}
}
