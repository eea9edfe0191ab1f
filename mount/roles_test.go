package mount_test

import (
	"slices"
	"testing"

	"thatch/api"
	"thatch/mount"
)

// zonesOf are zones of which a disk reports these states, and nothing else.
func zonesOf(states ...int) []api.Zone {
	var l []api.Zone
	for _, state := range states {
		l = append(l, api.Zone{State: state})
	}
	return l
}

// P22.2: any states, zones and batches, as zone by zone has them.
func TestRoles(t *testing.T) {
	seen := map[int]int{}
	ties := 0
	for seed := range uint64(1500) {
		x := []api.Geom{small, narrow, wide}[seed%3]
		number := numbers(seed)
		state := someState(x, number)
		var zones []api.Zone
		for range x.Seq {
			zones = append(zones, api.Zone{Number: number(9), State: 1 + number(7), Written: number(9)})
		}
		l := someStood(x, number, number(9))
		want, order, waste := roles(x, state, zones, l)
		gotRoles, gotOrder, gotWaste, e := mount.Roles(x, state, zones, l)
		if e != api.OK || !slices.Equal(gotRoles, want) || !slices.Equal(gotOrder, order) || !slices.Equal(gotWaste, waste) {
			t.Fatalf("%v %v %v: %v %v %v %d, not %v %v %v", state, zones, l, gotRoles, gotOrder, gotWaste, e, want, order, waste)
		}
		for _, role := range want {
			seen[role]++
		}
		if len(order) > 2 && !slices.IsSorted(order) {
			ties++
		}
	}
	if seen[api.RoleFree] < 200 || seen[api.RoleHome] < 200 || seen[api.RoleSealed] < 200 || seen[api.RoleBad] < 200 || seen[api.RoleActive]+seen[api.RoleSpare] > 0 || ties < 100 {
		t.Error(seen, ties)
	}
}

// P22.2: what comes ahead of what, one by one.
func TestRolesWritten(t *testing.T) {
	want := func(what string, state api.State, zones []api.Zone, l []api.Stood, roles, order, waste []int) {
		t.Helper()
		gotRoles, gotOrder, gotWaste, e := mount.Roles(small, state, zones, l)
		if e != api.OK || !slices.Equal(gotRoles, roles) || !slices.Equal(gotOrder, order) || !slices.Equal(gotWaste, waste) {
			t.Errorf("%s: %v %v %v %d, not %v %v %v", what, gotRoles, gotOrder, gotWaste, e, roles, order, waste)
		}
	}
	const free, home, sealed, bad = api.RoleFree, api.RoleHome, api.RoleSealed, api.RoleBad
	closed := zonesOf(api.ZoneClosed, api.ZoneClosed, api.ZoneClosed, api.ZoneClosed, api.ZoneClosed, api.ZoneClosed)
	state := empty(small)
	want("nothing", state, zonesOf(1, 1, 1, 1, 1, 1), nil, []int{free, free, free, free, free, free}, nil, nil)
	want("all that is not empty is waste", state, zonesOf(0, 2, 3, 4, 5, 1), nil, []int{free, free, free, free, free, free}, nil, []int{2, 3, 4, 5, 6})
	want("hurt ones", state, zonesOf(6, 7, 1, 1, 1, 1), nil, []int{bad, bad, free, free, free, free}, nil, nil)
	state.Upto, state.Homes[0], state.Homes[2], state.Bad[1] = 9, 2, 3, true
	state.Extents = []api.Extent{extent(0, 1, 2, 0), extent(1, 1, 3, 0), extent(2, 1, 4, 0), extent(3, 1, 255, 0)}
	newer := []api.Stood{at(2, 0, holes(10, s(0, 1))), at(3, 0, holes(10, s(0, 1))), at(5, 0, holes(10, s(0, 1))), at(6, 0, holes(9, s(0, 1)))}
	want("each one", state, closed, newer, []int{home, bad, sealed, sealed, free, free}, []int{4, 5}, []int{6, 7})
	want("and hurt", state, zonesOf(7, 7, 7, 6, 6, 7), newer, []int{home, bad, sealed, sealed, bad, bad}, []int{4, 5}, nil)
	want("and empty", state, zonesOf(1, 1, 1, 1, 1, 1), newer, []int{home, bad, sealed, sealed, free, free}, []int{4, 5}, nil)
	// The least number holds, be it one that the state has; 0 goes first, where
	// none stands; equal ones go by the zone.
	state = empty(small)
	state.Upto = 5
	state.Extents = []api.Extent{extent(0, 1, 7, 0), extent(2, 1, 6, 0), extent(4, 1, 2, 0)}
	l := []api.Stood{at(2, 0, holes(3, s(0, 1))), at(3, 0, holes(9, s(0, 1))), at(3, 1, holes(2, s(0, 1))), at(4, 0, holes(6, s(0, 1))), at(5, 0, holes(6, s(0, 1)))}
	want("the order", state, closed, l, []int{sealed, sealed, sealed, sealed, sealed, sealed}, []int{6, 7, 3, 2, 4, 5}, nil)
	// Whether a batch may be is not asked.
	l = []api.Stood{at(2, -7, api.Batch{Seq: 6}), at(3, 99, api.Batch{Seq: 1 << 50}), at(4, 0, api.Batch{Seq: 5}), at(6, 0, api.Batch{Seq: -8}), at(7, 0, api.Batch{})}
	want("any batches", state, closed, l, []int{sealed, sealed, free, free, sealed, sealed}, []int{6, 7, 2, 3}, []int{4, 5})
}

// P22.2: what Roles refuses.
func TestRolesRefused(t *testing.T) {
	refused := func(x api.Geom, state api.State, zones []api.Zone, l []api.Stood, want api.Errno) {
		t.Helper()
		roles, order, waste, e := mount.Roles(x, state, zones, l)
		if e != want || len(roles)+len(order)+len(waste) > 0 {
			t.Errorf("%v %v %v %v: %v %v %v %d, not %d", x, state, zones, l, roles, order, waste, e, want)
		}
	}
	zones := zonesOf(1, 1, 1, 1, 1, 1)
	for _, x := range brokenGeoms() {
		refused(x, empty(small), zones, nil, api.ErrGeom)
		refused(x, api.State{}, nil, []api.Stood{{}}, api.ErrGeom)
	}
	for _, state := range broken() {
		refused(small, state, zones, nil, api.ErrArg)
	}
	for _, l := range [][]api.Zone{nil, zones[:5], append(slices.Clone(zones), api.Zone{State: 1})} {
		refused(small, empty(small), l, nil, api.ErrArg)
	}
	for _, zone := range []int{-1, 0, 1, 8, 255} {
		refused(small, empty(small), zones, []api.Stood{at(2, 0, holes(1, s(0, 1))), at(zone, 0, holes(1, s(0, 1)))}, api.ErrArg)
	}
	over := empty(crowded)
	for i := range 14 {
		over.Extents = append(over.Extents, extent(2*i, 1, 255, 0))
	}
	refused(crowded, over, make([]api.Zone, 20), nil, api.ErrArg)
	over.Extents = over.Extents[1:]
	if _, _, _, e := mount.Roles(crowded, over, make([]api.Zone, 20), nil); e != api.OK {
		t.Error(e)
	}
}

// R3: nothing that is handed in is changed or kept, and what is told is new.
func TestRolesShared(t *testing.T) {
	state := empty(small)
	state.Extents = []api.Extent{extent(0, 1, 4, 0), extent(2, 1, 6, 0)}
	zones := zonesOf(2, 2, 2, 2, 2, 1)
	l := []api.Stood{at(3, 0, holes(2, s(0, 1))), at(2, 0, holes(1, s(5, 1)))}
	want := rolled(small, state, l)
	for range 2 {
		r, o, w, e := mount.Roles(small, state, zones, l)
		if e != api.OK || !slices.Equal(r, []int{3, 3, 3, 0, 3, 0}) || !slices.Equal(o, []int{4, 6, 2, 3}) || !slices.Equal(w, []int{5}) {
			t.Error(r, o, w, e)
		}
		clear(r[:cap(r)])
		clear(o[:cap(o)])
		clear(w[:cap(w)])
		got, e := mount.Roll(small, state, l)
		if e != api.OK || !same(got, want) {
			t.Error(got, e)
		}
		idle, _ := mount.Roll(small, state, nil)
		for _, x := range []api.State{got, idle} {
			clear(x.Homes[:cap(x.Homes)])
			clear(x.Bad[:cap(x.Bad)])
			clear(x.Extents[:cap(x.Extents)])
		}
		if l[0].Zone != 3 || l[1].Zone != 2 || !slices.Equal(l[0].Batch.Spans, []api.Span{s(0, 1)}) || zones[4].State != 2 || len(state.Extents) != 2 || state.Extents[0].N != 1 || state.Homes[2] != 255 {
			t.Error("changed", state, zones, l)
		}
	}
}
