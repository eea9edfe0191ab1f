package mcache_test

import (
	"math"
	"slices"
	"testing"

	"thatch/api"
)

// fits wants to be told whether batches of so many sectors would have room.
func (k *kit) fits(want bool, l ...int) {
	k.t.Helper()
	roles, last, active, order := k.pool.Roles(), k.cache.Last(), k.cache.Active(), k.cache.Order()
	k.gives(func() {
		if k.cache.Fits(l) != want {
			k.t.Errorf("Fits %v: not %t", l, want)
		}
	})
	k.roles(roles...)
	k.is(last, active, order...)
}

// P17.2: what would have room, at the edges.
func TestFits(t *testing.T) {
	k := newKit(t, small, 0)
	k.fits(true)
	k.fits(true, 1)
	k.fits(true, 12, 12)
	k.fits(false, 12, 12, 1)
	k.fits(true, 9, 3, 12)
	k.fits(true, 9, 4, 8)
	k.fits(false, 9, 4, 9)
	k.fits(true, slices.Repeat([]int{1}, 24)...)
	k.fits(false, slices.Repeat([]int{1}, 25)...)
	// Of the active zone three are left.
	k.write(0, 8, api.OK, put(0, 8, 2, 1))
	k.fits(true, 3, 12)
	k.fits(true, 3, 9, 3)
	k.fits(true, 4, 8)
	k.fits(false, 4, 9)
	k.fits(true, 1, 1, 1, 12)
	k.fits(false, 1, 1, 1, 12, 1)
	// It is full.
	k.write(0, 2, api.OK, put(0, 2, 2, 10))
	k.fits(true)
	k.fits(true, 12)
	k.fits(false, 12, 1)
	// It is put by: what was left is none of it any more.
	k.write(0, 3, api.OK, put(0, 3, 3, 1))
	k.fits(true, 8)
	k.fits(true, 1, 7)
	k.fits(false, 9)
	k.cache.PutBy()
	k.fits(true)
	k.fits(false, 1)
	must(t, k.cache.Free(2))
	k.fits(true, 12)
	k.fits(false, 12, 1)
}

// P17.2: numbers that are none, wherever they stand.
func TestFitsNone(t *testing.T) {
	k := newKit(t, small, 0)
	for _, n := range []int{math.MinInt, -12, -1, 0, 13, 14, 24, math.MaxInt, math.MaxInt - 11} {
		k.fits(false, n)
		k.fits(false, n, 1)
		k.fits(false, 1, n)
		k.fits(false, 1, n, 1)
	}
	k.write(0, 8, api.OK, put(0, 8, 2, 1))
	k.fits(false, 0)
	k.fits(false, -1)
	k.fits(false, 13)
}

// P17.2: fewer than two free zones are none for the cache; a spare one is not in
// its way.
func TestFitsFree(t *testing.T) {
	k := newKit(t, wide, 0)
	k.fits(true, slices.Repeat([]int{10}, 6)...)
	k.fits(false, slices.Repeat([]int{10}, 7)...)
	for zone := 3; zone < 7; zone++ {
		must(t, k.pool.Set(zone, bad))
	}
	k.fits(true, slices.Repeat([]int{10}, 4)...)
	k.fits(false, slices.Repeat([]int{10}, 5)...)
	if _, e := k.pool.Take(spare); e != api.OK {
		t.Fatal(e)
	}
	k.fits(true, slices.Repeat([]int{10}, 3)...)
	k.fits(false, slices.Repeat([]int{10}, 4)...)
	k.write(0, 4, api.OK, put(0, 4, 8, 1))
	k.fits(true, 6, 10)
	k.fits(false, 6, 10, 5)
	k.fits(true, 5, 10, 10)
	k.fits(false, 5, 10, 10, 1)
	// One that can not be written would be all the same, as long as that is not known.
	must(t, k.disk.Hurt(9, api.ZoneOffline), k.disk.Hurt(10, api.ZoneReadOnly))
	k.fits(true, 5, 10, 10)
	k.write(0, 8, api.ErrBusy)
	k.fits(false, 1)
}

// P17.2: what fits is written without ErrBusy, what does not is not, where
// nothing fails; each is tried on a cache that came there by the same steps.
func TestFitsHolds(t *testing.T) {
	for seed := range 300 {
		number := numbers(uint64(seed))
		x := []api.Geom{small, narrow, wide}[number(3)]
		run := min(8, x.Len-2)
		var steps, more []int
		for range number(20) {
			steps = append(steps, number(run+3))
		}
		for range 1 + number(20) {
			more = append(more, 2+number(run))
		}
		k, other := newKit(t, x, 0), newKit(t, x, 0)
		for _, at := range []*kit{k, other} {
			for _, n := range steps {
				at.step(n, run)
			}
		}
		for i := range more {
			n := i + 1
			would := k.cache.Fits(more[:n])
			l, e := other.cache.Write(s(0, more[i]-1), some(more[i]-1, 0))
			if would != (e == api.OK) || len(l) == 0 && e != api.ErrBusy {
				t.Fatalf("seed %d: %v fits: %t, and is %d", seed, more[:n], would, e)
			}
			if !would {
				break
			}
		}
	}
}

// step is a write of so many sectors, or something else.
func (k *kit) step(n, run int) {
	k.t.Helper()
	switch {
	case n == 0:
		k.cache.PutBy()
	case n <= run:
		k.cache.Write(s(0, n), some(n, 0))
	default:
		for _, zone := range k.cache.Order()[:min(1, len(k.cache.Order()))] {
			must(k.t, k.cache.Free(zone))
		}
	}
}
