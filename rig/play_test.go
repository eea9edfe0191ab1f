package rig_test

import (
	"testing"

	"thatch/api"
	"thatch/geom"
	"thatch/rig"
	"thatch/trace"
)

// play does any acts with a rig; it tells them, and whether the rig is wrong.
func play(t *testing.T, x api.Geom, number func(int) int, n, faults, crashes, stops int) ([]api.Act, *rig.Rig) {
	t.Helper()
	r := newRig(t, x, api.Options{Chunk: []int{1, 4, 5, 30}[number(4)], Policy: 1 + number(2)})
	var l []api.Act
	for range n {
		a := anyAct(x, number, faults, crashes, stops)
		switch {
		case r.Disk().Off() && number(3) == 0:
			a = anyCrash(x, number)
		case r.Device() == nil && number(2) == 0:
			a = api.Act{Kind: api.ActMount}
		case number(30) == 0:
			// Odd requests and crashes, but no faults.
			a = oddAct(x, number)
			a.Kind = api.ActWrite + a.Kind&7
		}
		l = append(l, a)
		e := r.Do(a)
		if number(12) == 0 {
			r.Sweep()
		}
		if r.Wrong() {
			return l, r
		}
		if a.Kind == api.ActMount && e != api.OK && e != api.ErrTwice && e != api.ErrOff && !r.Faulty() {
			t.Fatalf("not mounted: %d", e)
		}
	}
	r.Sweep()
	return l, r
}

// P26.3: a rig is never wrong, whatever is done with it; its commands keep to the
// rules, and follow.
func TestNeverWrong(t *testing.T) {
	geoms := append(small4(), g(2, 7, 9, 2, 5), g(2, 8, 16, 3, 2), g(4, 5, 8, 2, 2))
	for seed := range uint64(600) {
		number := numbers(50000 + seed)
		x := geoms[number(len(geoms))]
		faults, crashes, stops := int(seed%2)*number(40), number(60), number(80)
		if number(6) == 0 {
			crashes, stops = 0, 0
		}
		l, r := play(t, x, number, 200, faults, crashes, stops)
		if r.Wrong() || !r.Sweep() {
			text, _ := rig.Print(l)
			t.Fatalf("%d: %v is wrong behind\n%s", seed, x, text)
		}
		if r.Faulty() && faults == 0 {
			t.Fatal("faulty")
		}
		for _, part := range r.Parts() {
			if k := trace.First(geom.Shape(x), part); k >= 0 {
				t.Fatalf("%d: against the rules: %+v", seed, part[k])
			}
		}
		if !trace.Follows(geom.Shape(x), r.Parts()) {
			t.Fatalf("%d: the commands do not follow", seed)
		}
	}
}
