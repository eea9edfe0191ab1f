package rig_test

import (
	"bytes"
	"math"
	"slices"
	"testing"

	"thatch/api"
	"thatch/geom"
	"thatch/model"
	"thatch/rig"
)

// anyAct is some act: of a thousand so many are faults, crashes, and ends of the
// power.
func anyAct(x api.Geom, number func(int) int, faults, crashes, stops int) api.Act {
	l, _ := geom.Layout(x)
	switch p := number(1000); {
	case p < faults:
		return anyFault(x, number)
	case p < faults+crashes:
		return anyCrash(x, number)
	case p < faults+crashes+stops:
		return api.Act{Kind: api.ActStop, N: number(60)}
	}
	n := 1 + number(l.Sectors)
	at := number(l.Sectors - n + 1)
	switch q := number(100); {
	case q < 40:
		n = 1 + number(l.Run)
		return api.Act{Kind: api.ActWrite + number(8)/7, At: number(l.Sectors - n + 1), N: n, B: byte(number(256))}
	case q < 48:
		return api.Act{Kind: api.ActDiscard, At: at, N: n}
	case q < 52:
		return api.Act{Kind: api.ActFlush}
	case q < 80:
		return api.Act{Kind: api.ActStep, N: 1 + number(12)}
	case q < 82:
		return api.Act{Kind: api.ActPolicy, N: 1 + number(2)}
	case q < 84:
		return api.Act{Kind: api.ActUnmount}
	case q < 90:
		return api.Act{Kind: api.ActMount}
	}
	return api.Act{Kind: api.ActRead, At: at, N: n}
}

func anyFault(x api.Geom, number func(int) int) api.Act {
	conv := x.Conv * x.Len
	switch number(5) {
	case 0:
		return api.Act{Kind: api.ActFail, N: number(4)}
	case 1:
		zone := x.Conv + number(x.Seq)
		if number(6) == 0 {
			zone = number(x.Conv)
		}
		return api.Act{Kind: api.ActHurt, Zone: zone, N: api.ZoneReadOnly + number(2)}
	case 2:
		return api.Act{Kind: api.ActSpoil, At: number(conv + number(2)*x.Seq*x.Len)}
	}
	return api.Act{Kind: api.ActSpoil, At: conv + number(x.Seq*x.Len)}
}

// anyCrash is a crash by which any of what is unsure is kept.
func anyCrash(x api.Geom, number func(int) int) api.Act {
	a := api.Act{Kind: api.ActCrash}
	share := number(4)
	for at := range x.Conv * x.Len {
		if number(3) < share {
			a.Keep = append(a.Keep, api.Keep{Sector: at, Back: number(4) - 1})
		}
	}
	share = number(4)
	for range x.Seq {
		n := number(x.Len + 1)
		if number(3) >= share {
			n = number(2) * n
		}
		a.Prefix = append(a.Prefix, n)
	}
	return a
}

// oddAct is an act that is mostly refused, or has what its kind does not.
func oddAct(x api.Geom, number func(int) int) api.Act {
	odd := func() int {
		return []int{math.MinInt, -4096, -1, 0, 1, 7, x.Len, 32, 33, 4095, 4096, 4097, math.MaxInt}[number(13)]
	}
	a := api.Act{Kind: number(18) - 1, At: odd(), N: odd(), B: byte(number(256)), Zone: odd()}
	if number(3) == 0 {
		a.Keep = []api.Keep{{Sector: odd(), Back: odd()}}
		a.Prefix = []int{odd(), odd(), odd()}
	}
	if number(20) == 0 {
		a.Kind = odd()
	}
	// The odd acts are not to end all the others.
	if a.Kind == api.ActHurt && a.Zone < x.Conv || a.Kind == api.ActFail && a.N > 7 || a.Kind == api.ActSpoil && number(4) > 0 {
		a.Kind = api.ActRead
	}
	return a
}

// sameModel wants that two models say the same.
func sameModel(t *testing.T, a, b *model.Model) {
	t.Helper()
	for at := range b.Sectors() {
		if !slices.EqualFunc(a.Now(at), b.Now(at), bytes.Equal) || !slices.EqualFunc(a.Behind(at), b.Behind(at), bytes.Equal) {
			t.Fatalf("the model's sector %d", at)
		}
	}
	if a.Sectors() != b.Sectors() {
		t.Fatal("the model's sectors")
	}
}

// alike wants that a rig is as its twin.
func alike(t *testing.T, r *rig.Rig, w *twin) {
	t.Helper()
	if r.Faulty() != w.faulty || r.Wrong() != w.wrong || (r.Device() == nil) != (w.dev == nil) {
		t.Fatalf("faulty %t, wrong %t, a device %t, not %t, %t, %t", r.Faulty(), r.Wrong(), r.Device() != nil, w.faulty, w.wrong, w.dev != nil)
	}
	if r.Device().Status() != w.dev.Status() {
		t.Fatalf("%+v, not %+v", r.Device().Status(), w.dev.Status())
	}
	if !slices.EqualFunc(r.Parts(), w.cut(), slices.Equal[[]api.Cmd]) {
		t.Fatalf("other commands")
	}
	sameModel(t, r.Model(), w.model)
}

// behindTheBack does something to a rig's disk, model or device, and its twin's.
func behindTheBack(r *rig.Rig, w *twin, number func(int) int) {
	at := number(w.model.Sectors())
	switch number(4) {
	case 0:
		sector := number((w.geom.Conv + w.geom.Seq) * w.geom.Len)
		r.Disk().Spoil(sector)
		w.disk.Spoil(sector)
	case 1:
		data := plainData(byte(number(256)), 1)
		r.Model().Wrote(at, data, false, api.OK)
		w.model.Wrote(at, data, false, api.OK)
	case 2:
		data := plainData(byte(number(256)), 1)
		r.Device().Write(at, data, false)
		w.dev.Write(at, data, false)
	case 3:
		r.Device().Unmount()
		w.dev.Unmount()
	}
}

// P26.1, P26.2: behind each of any acts a rig is what its disk, its device and its
// model are that are told the same one by one.
func TestAny(t *testing.T) {
	wrong := 0
	for seed := range uint64(300) {
		number := numbers(seed)
		x := small4()[seed%4]
		o := api.Options{Chunk: []int{1, 4, 30}[number(3)], Policy: 1 + number(2)}
		r, w := newRig(t, x, o), newTwin(t, x, o)
		alike(t, r, w)
		faults, crashes, stops := number(2)*number(30), number(50), number(50)
		for i := range 100 {
			a := anyAct(x, number, faults, crashes, stops)
			switch {
			case number(15) == 0:
				a = oddAct(x, number)
			case w.disk.Off() && number(3) == 0:
				a = anyCrash(x, number)
			case w.dev == nil && number(2) == 0:
				a = api.Act{Kind: api.ActMount}
			}
			keep, prefix := slices.Clone(a.Keep), slices.Clone(a.Prefix)
			if got, want := r.Do(a), w.do(a); got != want {
				t.Fatalf("%d: %v: %d, not %d", seed, a, got, want)
			}
			if !slices.Equal(a.Keep, keep) || !slices.Equal(a.Prefix, prefix) {
				t.Fatal("changed", a)
			}
			if number(20) == 0 {
				if got, want := r.Sweep(), w.sweep(); got != want {
					t.Fatalf("%d: a sweep tells %t", seed, got)
				}
			}
			if seed%8 > 5 && number(60) == 0 {
				behindTheBack(r, w, number)
			}
			if i%7 == 0 {
				alike(t, r, w)
			}
		}
		alike(t, r, w)
		if r.Wrong() {
			wrong++
		}
	}
	if wrong < 10 {
		t.Error("wrong", wrong, "times")
	}
}
