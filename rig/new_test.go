package rig_test

import (
	"math"
	"slices"
	"testing"

	"thatch/api"
	"thatch/geom"
	"thatch/rig"
)

// P26.1: a new rig: a disk that is formatted, a device that is mounted, a model of
// as many sectors.
func TestNew(t *testing.T) {
	for _, x := range append(small4(), g(2, 7, 9, 2, 5), g(16, 8, 64, 8, 3)) {
		for _, o := range []api.Options{fifo, {Chunk: 1, Policy: api.PolicyGreedy}, {Chunk: 4096, Policy: api.PolicyFifo}} {
			r, w := newRig(t, x, o), newTwin(t, x, o)
			alike(t, r, w)
			l, _ := geom.Layout(x)
			if r.Disk().Shape() != geom.Shape(x) || r.Device().Geom() != x || r.Model().Sectors() != l.Sectors {
				t.Errorf("%v: %v, %v, %d", x, r.Disk().Shape(), r.Device().Geom(), r.Model().Sectors())
			}
			if r.Faulty() || r.Wrong() || len(r.Parts()) != 1 || !r.Sweep() || r.Wrong() {
				t.Error(x, "is wrong from the beginning")
			}
		}
	}
}

// P26.1: geometries and options that are refused, the geometries first.
func TestNewRefused(t *testing.T) {
	bad := []api.Geom{{}, g(1, 6, 12, 2, 2), g(17, 6, 12, 2, 2), g(2, 3, 12, 2, 1), g(2, 6, 7, 2, 2), g(2, 6, 1025, 2, 2), g(2, 6, 12, 1, 2), g(2, 6, 12, 2, 0), g(2, 6, 12, 2, 5), g(2, 59, 8, 2, 1), g(math.MaxInt, math.MinInt, math.MaxInt, -1, 0)}
	badOptions := []api.Options{{}, {Chunk: 0, Policy: 1}, {Chunk: 4097, Policy: 1}, {Chunk: -1, Policy: 2}, {Chunk: 4, Policy: 0}, {Chunk: 4, Policy: 3}, {Chunk: math.MinInt, Policy: math.MaxInt}}
	for _, x := range bad {
		for _, o := range append(badOptions, fifo) {
			if r, e := rig.New(x, o); r != nil || e != api.ErrGeom {
				t.Errorf("%v, %v: %d", x, o, e)
			}
		}
	}
	for _, x := range small4() {
		for _, o := range badOptions {
			if r, e := rig.New(x, o); r != nil || e != api.ErrArg {
				t.Errorf("%v, %v: %d", x, o, e)
			}
		}
	}
}

// P26.2: what is answered of no rig.
func TestNil(t *testing.T) {
	var r *rig.Rig
	for kind := -1; kind < 17; kind++ {
		if e := r.Do(api.Act{Kind: kind, N: 5000}); e != api.ErrClosed {
			t.Errorf("act %d of none: %d", kind, e)
		}
	}
	if r.Disk() != nil || r.Device() != nil || r.Model() != nil || len(r.Parts()) != 0 || r.Faulty() || r.Wrong() || r.Sweep() {
		t.Error("none has something")
	}
}

// P26.1: the parts: the format's commands are in the first, each crash begins
// another one, with commands or without.
func TestParts(t *testing.T) {
	r := newRig(t, small, fifo)
	first := commands(r.Disk())
	if p := r.Parts(); len(p) != 1 || !slices.Equal(p[0], first) || first[0] != (api.Cmd{Kind: api.CmdWrite, N: 1}) {
		t.Error(p)
	}
	do(t, r, api.Act{Kind: api.ActCrash})
	if p := r.Parts(); len(p) != 2 || !slices.Equal(p[0], first) || len(p[1]) != 0 {
		t.Error(p)
	}
	do(t, r, api.Act{Kind: api.ActCrash}, api.Act{Kind: api.ActMount}, api.Act{Kind: api.ActForce, At: 3, N: 1})
	third := commands(r.Disk())[len(first):]
	// One that is refused is none.
	tell(t, r, api.Act{Kind: api.ActCrash, Keep: []api.Keep{{Sector: 24}}}, api.ErrArg)
	p := r.Parts()
	if len(p) != 3 || !slices.Equal(p[0], first) || len(p[1]) != 0 || !slices.Equal(p[2], third) || len(third) == 0 {
		t.Error(p)
	}
	do(t, r, api.Act{Kind: api.ActUnmount}, api.Act{Kind: api.ActMount})
	if p := r.Parts(); len(p) != 3 || len(p[2]) <= len(third) {
		t.Error("mounting begins no part")
	}
	do(t, r, api.Act{Kind: api.ActCrash})
	// What is answered is new memory, and shares nothing.
	p = r.Parts()
	for i := range p {
		if len(p[i]) > 0 {
			p[i] = append(p[i], api.Cmd{Kind: 99})
			clear(p[i])
			p[i] = p[i][:cap(p[i])]
			clear(p[i])
		}
	}
	if q := r.Parts(); len(q) != 4 || !slices.Equal(q[0], first) || !slices.Equal(q[2][:len(third)], third) || q[2][len(third)] == (api.Cmd{}) {
		t.Error(q)
	}
}

// P26.2: a request's data.
func TestData(t *testing.T) {
	for _, n := range []int{0, 1, 2, 3, 255, 256, 257, 600, 4095, 4096} {
		for _, b := range []byte{0, 1, 5, 127, 128, 254, 255} {
			if got := rig.Data(b, n); !slices.Equal(got, plainData(b, n)) || len(got) != n*128 {
				t.Errorf("%d sectors of %d", n, b)
			}
		}
	}
	for _, n := range []int{math.MinInt, -4096, -1, 4097, 1 << 40, math.MaxInt} {
		if got := rig.Data(5, n); len(got) != 0 {
			t.Errorf("%d bytes of %d sectors", len(got), n)
		}
	}
	one, two := rig.Data(9, 2), rig.Data(9, 2)
	clear(one[:cap(one)])
	if !slices.Equal(two, plainData(9, 2)) {
		t.Error("shared")
	}
}
