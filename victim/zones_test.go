package victim_test

import (
	"math"
	"slices"
	"testing"

	"thatch/api"
	"thatch/victim"
)

// wantChoices wants a choice for each zone of an order.
func wantChoices(t *testing.T, x api.Geom, l []api.Extent, order ...int) {
	t.Helper()
	var want []api.Choice
	for age, zone := range order {
		want = append(want, plainChoice(x, l, zone, age))
	}
	if got, e := victim.Choices(x, l, order); e != api.OK || !slices.Equal(got, want) {
		t.Errorf("%v: zones %v of %v: %v %d, not %v", x, order, l, got, e, want)
	}
}

// wantNoChoices wants an error.
func wantNoChoices(t *testing.T, x api.Geom, l []api.Extent, want api.Errno, order ...int) {
	t.Helper()
	if got, e := victim.Choices(x, l, order); e != want || len(got) > 0 {
		t.Errorf("%v: zones %v of %v: %v %d, not %d", x, order, l, got, e, want)
	}
}

// P19.1: some choices, as the words have them.
func TestChoices(t *testing.T) {
	l := []api.Extent{put(0, 4, 5, 1), put(10, 8, 3, 0), nothing(20, 2), put(31, 3, 5, 5)}
	got, e := victim.Choices(small, l, []int{5, 3, 7})
	if e != api.OK || !slices.Equal(got, []api.Choice{choice(5, 7, 2, 0), choice(3, 8, 2, 1), choice(7, 0, 0, 2)}) {
		t.Error(got, e)
	}
	wantChoices(t, small, l)
	wantChoices(t, small, l, 5)
	wantChoices(t, small, l, 7, 6, 5, 4, 3, 2)
	wantChoices(t, small, nil, 4, 2)
	wantChoices(t, small, []api.Extent{nothing(0, 45)}, 2, 7)
	// What goes over a band's end counts for both; what lies at a place twice
	// counts twice.
	wantChoices(t, small, []api.Extent{put(14, 2, 4, 0)}, 4)
	wantChoices(t, small, []api.Extent{put(14, 1, 4, 0), put(15, 1, 4, 1)}, 4)
	wantChoices(t, small, []api.Extent{put(0, 3, 4, 0), put(3, 3, 4, 0)}, 4)
	wantChoices(t, narrow, []api.Extent{put(6, 8, 4, 0), put(14, 8, 5, 0)}, 5, 4)
	wantChoices(t, small, []api.Extent{put(0, 1, 4, 0), put(1, 1, 5, 0), put(2, 1, 4, 1), put(44, 1, 4, 2)}, 5, 4)
}

// P19.1: what valid refuses is told ahead of a zone that is there twice.
func TestChoicesRefused(t *testing.T) {
	whole := []api.Extent{put(0, 4, 5, 1)}
	for _, x := range brokenGeoms() {
		for _, l := range [][]api.Extent{nil, whole, {{}}} {
			wantNoChoices(t, x, l, api.ErrGeom)
			wantNoChoices(t, x, l, api.ErrGeom, 5)
			wantNoChoices(t, x, l, api.ErrGeom, 5, 5)
			wantNoChoices(t, x, l, api.ErrGeom, -1)
		}
	}
	for _, l := range brokenLists() {
		wantNoChoices(t, small, l, api.ErrArg)
		wantNoChoices(t, small, l, api.ErrArg, 5, 3)
		wantNoChoices(t, small, l, api.ErrArg, 5, 5)
	}
	for _, x := range wholeGeoms() {
		a, b := x.Conv, x.Conv+x.Seq-1
		for _, none := range noZones(x) {
			for _, order := range [][]int{{none}, {none, a}, {a, none}, {a, none, b}, {none, none}, {a, a, none}, {none, a, a}, {b, a, a, none}, {a, b, a, b, none}} {
				wantNoChoices(t, x, nil, api.ErrArg, order...)
			}
		}
		wantNoChoices(t, x, nil, api.ErrTwice, a, a)
		wantNoChoices(t, x, nil, api.ErrTwice, a, b, a)
		wantNoChoices(t, x, nil, api.ErrTwice, b, a, b, a)
		wantNoChoices(t, x, []api.Extent{put(0, 1, a, 0)}, api.ErrTwice, a+1, b, b)
		wantNoChoices(t, x, nil, api.ErrTwice, slices.Repeat([]int{a}, 1000)...)
	}
}

// P19.1: extents and orders that look like chance, reckoned sector by sector.
func TestChoicesAny(t *testing.T) {
	for seed := range 300 {
		number := numbers(uint64(seed))
		x := wholeGeoms()[number(5)]
		order := make([]int, x.Seq)
		for i := range order {
			order[i] = x.Conv + i
			j := number(i + 1)
			order[i], order[j] = order[j], order[i]
		}
		wantChoices(t, x, someList(x, number), order[:number(x.Seq+1)]...)
	}
}

// wantCrowd wants the crowded bands, for each number of them.
func wantCrowd(t *testing.T, x api.Geom, l []api.Extent) {
	t.Helper()
	for _, most := range []int{1, 2, 3, bandsOf(x), bandsOf(x) + 1, math.MaxInt} {
		want := plainCrowd(x, l, most)
		if got, e := victim.Crowd(x, l, most); e != api.OK || !slices.Equal(got, want) {
			t.Errorf("%v: at most %d bands of %v: %v %d, not %v", x, most, l, got, e, want)
		}
	}
}

// P19.2: which bands are crowded, by small lists, each of which goes to an edge.
func TestCrowd(t *testing.T) {
	wantCrowd(t, small, nil)
	wantCrowd(t, small, []api.Extent{})
	wantCrowd(t, small, []api.Extent{put(44, 1, 3, 0)})
	wantCrowd(t, small, []api.Extent{nothing(0, 45)})
	// Extents of nothing count, and sectors do not.
	wantCrowd(t, small, []api.Extent{put(0, 15, 3, 0), nothing(15, 1), nothing(17, 1), put(30, 2, 3, 0)})
	// Touching ones count each for itself, one over a band's end for both.
	wantCrowd(t, small, []api.Extent{put(0, 15, 3, 0), put(15, 1, 3, 1), put(16, 1, 3, 2), put(29, 2, 3, 3)})
	wantCrowd(t, small, []api.Extent{put(14, 2, 3, 1), put(29, 2, 3, 3)})
	wantCrowd(t, narrow, []api.Extent{put(6, 8, 4, 0), nothing(14, 15), put(30, 1, 4, 0), put(32, 1, 4, 0)})
	if got, e := victim.Crowd(small, []api.Extent{put(0, 9, 2, 0), put(20, 1, 2, 0), put(22, 1, 2, 1), put(31, 1, 2, 2), nothing(33, 1), put(35, 1, 7, 0)}, 2); e != api.OK || !slices.Equal(got, []int{2, 1}) {
		t.Error(got, e)
	}
	for seed := range 300 {
		number := numbers(uint64(seed))
		x := wholeGeoms()[number(5)]
		wantCrowd(t, x, someList(x, number))
	}
}

// wantNoCrowd wants an error.
func wantNoCrowd(t *testing.T, x api.Geom, l []api.Extent, most int, want api.Errno) {
	t.Helper()
	if got, e := victim.Crowd(x, l, most); e != want || len(got) > 0 {
		t.Errorf("%v: at most %d bands of %v: %v %d, not %d", x, most, l, got, e, want)
	}
}

// P19.2: geometries, lists, and numbers that may not be, the geometry first.
func TestCrowdRefused(t *testing.T) {
	for _, most := range []int{math.MinInt, -1, 0, 1, 3, math.MaxInt} {
		for _, x := range brokenGeoms() {
			wantNoCrowd(t, x, nil, most, api.ErrGeom)
			wantNoCrowd(t, x, []api.Extent{put(0, 4, 5, 1)}, most, api.ErrGeom)
			wantNoCrowd(t, x, []api.Extent{{}}, most, api.ErrGeom)
		}
		for _, l := range brokenLists() {
			wantNoCrowd(t, small, l, most, api.ErrArg)
		}
		if most > 0 {
			continue
		}
		for _, x := range wholeGeoms() {
			wantNoCrowd(t, x, nil, most, api.ErrArg)
			wantNoCrowd(t, x, []api.Extent{nothing(0, 3), put(5, 1, x.Conv, 0)}, most, api.ErrArg)
		}
	}
}
