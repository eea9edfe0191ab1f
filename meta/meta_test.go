package meta_test

import (
	"slices"
	"testing"

	"thatch/api"
	"thatch/meta"
	"thatch/zdisk"
)

// P21.3: a nil Meta, whatever it is asked.
func TestNil(t *testing.T) {
	var m *meta.Meta
	for _, s := range []api.State{{}, busy()} {
		if e := m.Checkpoint(s, true); e != api.ErrClosed {
			t.Error(e)
		}
		for _, l := range [][]api.Delta{nil, {hole(0, 1)}, {{}}} {
			if is, e := m.Commit(l, s); is || e != api.ErrClosed {
				t.Error(is, e)
			}
		}
	}
	if m.Super() != (api.Super{}) || m.Room() != 0 || !m.Dead() {
		t.Error(m.Super(), m.Room(), m.Dead())
	}
}

// The chapter's example.
func TestExample(t *testing.T) {
	d := formatted(t, small)
	m, s := load(t, d)
	if !same(s, empty(small)) {
		t.Error(s)
	}
	must(t, m.Checkpoint(s, false))
	l := []api.Delta{hole(3, 2)}
	s, e := meta.After(small, s, l)
	must(t, e)
	if is, e := m.Commit(l, s); is || e != api.OK {
		t.Error(is, e)
	}
	must(t, d.Crash(nil, nil))
	want := empty(small)
	want.Extents = []api.Extent{extent(3, 2, 255, 0)}
	if _, s := load(t, d); !same(s, want) {
		t.Error(s)
	}
}

// device is a disk, a meta of it, and what it may say of its state: the one that
// lasts, and what was handed on since.
type device struct {
	t      *testing.T
	geom   api.Geom
	number func(int) int
	disk   *zdisk.Disk
	meta   *meta.Meta
	plain  *plain
}

// someDeltas change the plain state.
func (v *device) someDeltas() []api.Delta {
	var l []api.Delta
	for range v.number(15) {
		l = append(l, someDelta(v.geom, v.number))
		v.plain.change(l[len(l)-1])
	}
	if len(l) > 0 {
		v.plain.upto += v.number(3)
	}
	return l
}

// cut does something in the course of which the power may go, then crashes and
// loads: the state that was there ahead, or the one that was handed on, is there.
func (v *device) cut() {
	v.t.Helper()
	ahead := v.plain.clone()
	stop := v.number(12)
	must(v.t, v.disk.Stop(stop))
	l := v.someDeltas()
	var e api.Errno
	if v.number(4) == 0 {
		e = v.meta.Checkpoint(v.plain.state(), v.number(2) == 0)
	} else {
		_, e = v.meta.Commit(l, v.plain.state())
	}
	if e != api.OK && e != api.ErrOff || v.meta.Dead() != (e == api.ErrOff) {
		v.t.Fatal(e)
	}
	must(v.t, v.disk.Crash(keepSome(v.geom, v.number)))
	m, s := load(v.t, v.disk)
	switch {
	case same(s, v.plain.state()):
	case e == api.ErrOff && same(s, ahead.state()):
		v.plain = ahead
	default:
		v.t.Fatalf("behind a crash (%d commands, %d): %v, neither %v nor %v", stop, e, s, ahead.state(), v.plain.state())
	}
	v.meta = m
	// It may be that the power goes in the course of the next one, too.
	must(v.t, v.disk.Stop(v.number(20)))
	e = m.Checkpoint(s, false)
	if e == api.OK && v.number(2) == 0 {
		must(v.t, v.disk.Stop(-1))
		if !v.disk.Off() {
			return
		}
	}
	must(v.t, v.disk.Crash(keepSome(v.geom, v.number)))
	m, s = load(v.t, v.disk)
	if !same(s, v.plain.state()) {
		v.t.Fatalf("behind a second crash: %v, not %v", s, v.plain.state())
	}
	must(v.t, m.Checkpoint(s, false))
	v.meta = m
}

// commit commits something, and wants that it is there.
func (v *device) commit() {
	v.t.Helper()
	l := v.someDeltas()
	s := v.plain.state()
	if _, e := v.meta.Commit(l, s); e != api.OK {
		v.t.Fatal(e)
	}
	d := v.disk.Fork()
	must(v.t, d.Crash(keepSome(v.geom, v.number)))
	if _, x := load(v.t, d); !same(x, s) {
		v.t.Fatalf("committed: %v, not %v", x, s)
	}
}

// P21.4: what was committed is loaded, whatever crashes behind it; of what a crash
// cut off all is, or nothing. No command is refused, but for the power's sake.
func TestCrash(t *testing.T) {
	ahead, behind := 0, 0
	for seed := range uint64(100) {
		x := layouts[seed%3].g
		d, m, _ := begun(t, x)
		v := &device{t, x, numbers(seed), d, m, newPlain(x)}
		for range 30 {
			if v.number(3) > 0 {
				v.commit()
				continue
			}
			was := v.plain
			v.cut()
			if v.plain == was {
				behind++
			} else {
				ahead++
			}
		}
		for _, c := range given(d) {
			if c.code != api.OK {
				t.Fatal(c)
			}
		}
	}
	if ahead < 200 || behind < 200 {
		t.Error("too little was tried", ahead, behind)
	}
}

// R3: nothing that is handed in is changed or kept, and what is told is new.
func TestNothingShared(t *testing.T) {
	room := []api.Delta{put(3, 4, 4, 1), home(1, 5), hole(20, 1), bad(3), hole(21, 1)}
	l, was := room[:4], slices.Clone(room)
	s := busy()
	s.Extents = append(make([]api.Extent, 0, 9), s.Extents...)
	s.Homes = append(make([]int, 0, 9), s.Homes...)
	s.Bad = append(make([]bool, 0, 9), s.Bad...)
	wipe := func(s api.State) {
		clear(s.Extents[:cap(s.Extents)])
		clear(s.Homes[:cap(s.Homes)])
		clear(s.Bad[:cap(s.Bad)])
	}
	after, e := meta.After(small, s, l)
	must(t, e)
	again, _ := meta.After(small, s, l)
	idle, _ := meta.After(small, s, nil)
	if !slices.Equal(room, was) || !same(s, busy()) || slices.Max(s.Homes[:9][2:]) > 0 || slices.Contains(s.Bad[:9][5:], true) || slices.ContainsFunc(s.Extents[:9][2:], func(x api.Extent) bool { return x != api.Extent{} }) {
		t.Error("changed", room, s)
	}
	wipe(after)
	wipe(idle)
	d, m, _ := begun(t, small)
	must(t, m.Checkpoint(s, false))
	_, e = m.Commit(l, again)
	must(t, e)
	if !slices.Equal(room, was) || !same(s, busy()) {
		t.Error("changed", room, s)
	}
	want, _ := meta.After(small, busy(), was[:4])
	clear(room)
	wipe(s)
	wipe(again)
	for range 2 {
		n, x := load(t, d)
		if !same(x, want) {
			t.Error("shared", x)
		}
		wipe(x)
		if n.Super() != m.Super() {
			t.Error(n.Super())
		}
	}
	must(t, m.Checkpoint(want, false))
	if _, x := load(t, d); !same(x, want) {
		t.Error("shared", x)
	}
}
