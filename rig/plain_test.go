package rig_test

import (
	"slices"
	"testing"

	"thatch/api"
	"thatch/geom"
	"thatch/meta"
	"thatch/model"
	"thatch/rig"
	"thatch/stl"
	"thatch/zdisk"
)

func g(conv, seq, length, limit, cache int) api.Geom {
	return api.Geom{Conv: conv, Seq: seq, Len: length, Limit: limit, Cache: cache}
}

// Geometries of small devices: small has 33 sectors.
var (
	small   = g(2, 6, 12, 2, 2)
	narrow  = g(2, 4, 8, 2, 1)
	wide    = g(3, 9, 10, 3, 4)
	crowded = g(2, 20, 8, 2, 5)
)

func small4() []api.Geom { return []api.Geom{small, narrow, wide, crowded} }

var fifo = api.Options{Chunk: 4, Policy: api.PolicyFifo}

// numbers is some numbers that a seed makes.
func numbers(seed uint64) func(below int) int {
	x := seed*0x9E3779B97F4A7C15 + 1
	return func(below int) int {
		x ^= x << 13
		x ^= x >> 7
		x ^= x << 17
		return int(x>>11) % below
	}
}

// newRig is a rig that may be.
func newRig(t *testing.T, x api.Geom, o api.Options) *rig.Rig {
	t.Helper()
	r, e := rig.New(x, o)
	if e != api.OK || r == nil {
		t.Fatal(x, o, e)
	}
	return r
}

// do does acts, each of which is to be OK.
func do(t *testing.T, r *rig.Rig, l ...api.Act) {
	t.Helper()
	for _, a := range l {
		tell(t, r, a, api.OK)
	}
}

// tell does an act that is to tell a code.
func tell(t *testing.T, r *rig.Rig, a api.Act, want api.Errno) {
	t.Helper()
	if e := r.Do(a); e != want {
		t.Fatalf("%v: %d, not %d", a, e, want)
	}
}

// plainData is a request's data, byte by byte.
func plainData(b byte, n int) []byte {
	var data []byte
	for i := 0; i < n; i++ {
		for k := range 128 {
			switch k {
			case 0:
				data = append(data, b)
			case 1:
				data = append(data, byte(i%256))
			case 127:
				data = append(data, 255-b)
			default:
				data = append(data, 0)
			}
		}
	}
	return data
}

// twin is what a rig is made of, each by itself.
type twin struct {
	geom   api.Geom
	opts   api.Options
	disk   *zdisk.Disk
	dev    *stl.Device
	model  *model.Model
	parts  []int
	faulty bool
	wrong  bool
}

func newTwin(t *testing.T, x api.Geom, o api.Options) *twin {
	t.Helper()
	l, e := geom.Layout(x)
	d, e2 := zdisk.New(geom.Shape(x))
	e3 := meta.Format(d, x)
	v, e4 := stl.Mount(d, o)
	m, e5 := model.New(l.Sectors)
	if !slices.Equal([]api.Errno{e, e2, e3, e4, e5}, make([]api.Errno, 5)) {
		t.Fatal(e, e2, e3, e4, e5)
	}
	return &twin{geom: x, opts: o, disk: d, dev: v, model: m}
}

// commands are all that a disk was given.
func commands(d *zdisk.Disk) []api.Cmd {
	var l []api.Cmd
	for c := range d.Cmds() {
		l = append(l, c)
	}
	return l
}

func (w *twin) request(a api.Act) api.Errno {
	var e api.Errno
	s := api.Span{At: a.At, N: a.N}
	switch a.Kind {
	case 1, 2:
		if a.N < 0 || a.N > 4096 {
			return api.ErrArg
		}
		if w.dev == nil {
			return api.ErrClosed
		}
		e = w.dev.Write(a.At, plainData(a.B, a.N), a.Kind == 2)
		w.model.Wrote(a.At, plainData(a.B, a.N), a.Kind == 2, e)
	case 4:
		if w.dev == nil {
			return api.ErrClosed
		}
		e = w.dev.Discard(s)
		w.model.Discarded(s, e)
	case 5:
		if w.dev == nil {
			return api.ErrClosed
		}
		e = w.dev.Flush()
		w.model.Flushed(e)
	}
	return e
}

func (w *twin) read(a api.Act) api.Errno {
	if w.dev == nil {
		return api.ErrClosed
	}
	b, e := w.dev.Read(a.At, a.N)
	if e == api.OK {
		m := w.model
		if w.dev.Status().ReadOnly {
			m = m.Fork()
		}
		if !m.Saw(a.At, b) {
			w.wrong = true
		}
		return e
	}
	if e != api.ErrClosed && e != api.ErrOff && geom.Check(w.geom, api.Span{At: a.At, N: a.N}) == api.OK && !w.faulty {
		w.wrong = true
	}
	return e
}

func (w *twin) cleaner(a api.Act) api.Errno {
	if w.dev == nil {
		return api.ErrClosed
	}
	if a.Kind == 7 {
		return w.dev.SetPolicy(a.N)
	}
	for n := 0; n < a.N && n < 4096; n++ {
		is, e := w.dev.Step()
		if e != api.OK || !is {
			return e
		}
	}
	return api.OK
}

func (w *twin) mounting(a api.Act) api.Errno {
	var e api.Errno
	switch {
	case a.Kind == 8:
		e = w.disk.Crash(a.Keep, a.Prefix)
		if e == api.OK {
			w.dev = nil
			w.model.Crashed()
			w.parts = append(w.parts, len(commands(w.disk)))
		}
	case a.Kind == 9 && w.dev != nil:
		e = api.ErrTwice
	case a.Kind == 9:
		w.dev, e = stl.Mount(w.disk, w.opts)
	case w.dev == nil:
		e = api.ErrClosed
	default:
		e = w.dev.Unmount()
		w.dev = nil
		if e == api.OK {
			w.model.Flushed(api.OK)
		} else {
			w.model.Crashed()
		}
	}
	return e
}

func (w *twin) fault(a api.Act) api.Errno {
	var e api.Errno
	switch a.Kind {
	case 11:
		return w.disk.Stop(a.N)
	case 12:
		e = w.disk.Fail(a.N)
	case 13:
		e = w.disk.Hurt(a.Zone, a.N)
	case 14:
		e = w.disk.Spoil(a.At)
	}
	if e == api.OK {
		w.faulty = true
	}
	return e
}

// do does an act as its kind says.
func (w *twin) do(a api.Act) api.Errno {
	switch a.Kind {
	case 1, 2, 4, 5:
		return w.request(a)
	case 3:
		return w.read(a)
	case 6, 7:
		return w.cleaner(a)
	case 8, 9, 10:
		return w.mounting(a)
	case 11, 12, 13, 14:
		return w.fault(a)
	}
	return api.ErrArg
}

// sweep reads each sector.
func (w *twin) sweep() bool {
	if w.dev != nil {
		for at := range w.model.Sectors() {
			w.read(api.Act{At: at, N: 1})
		}
	}
	return !w.wrong
}

// cut are the commands in parts.
func (w *twin) cut() [][]api.Cmd {
	parts := [][]api.Cmd{nil}
	ends := w.parts
	for i, c := range commands(w.disk) {
		for len(ends) > 0 && ends[0] == i {
			parts = append(parts, nil)
			ends = ends[1:]
		}
		parts[len(parts)-1] = append(parts[len(parts)-1], c)
	}
	for range ends {
		parts = append(parts, nil)
	}
	return parts
}
