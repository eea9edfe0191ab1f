package stl_test

import (
	"testing"

	"thatch/api"
	"thatch/model"
	"thatch/stl"
	"thatch/zdisk"
)

// play is a device with which anything is done, and a model of what it may tell.
type play struct {
	t      *testing.T
	geom   api.Geom
	number func(int) int
	disk   *zdisk.Disk
	dev    *stl.Device
	model  *model.Model
	seed   int
	faulty bool
	part   int // the commands ahead of the last crash
}

func newPlay(t *testing.T, x api.Geom, number func(int) int) *play {
	t.Helper()
	m, e := model.New(layout(x).Sectors)
	must(t, e)
	p := &play{t: t, geom: x, number: number, disk: formatted(t, x), model: m}
	if !p.mount() {
		t.Fatal("not mounted")
	}
	return p
}

// mount mounts; it tells whether there is a device.
func (p *play) mount() bool {
	v, e := stl.Mount(p.disk, options([]int{1, 4, 5, 30}[p.number(4)], 1+p.number(2)))
	p.dev = v
	return e == api.OK
}

// crash crashes, in the course of mounting too, any of what is unsure being kept,
// and mounts what is left; it tells whether there is a device.
func (p *play) crash() bool {
	p.t.Helper()
	for {
		p.rules()
		p.keepSome()
		p.model.Crashed()
		if p.number(2) == 0 {
			break
		}
		must(p.t, p.disk.Stop(p.number(16)))
		// The device that is mounted in time is not asked anything.
		if !p.mount() && !p.disk.Off() && !p.faulty {
			p.t.Fatal("not mounted")
		}
	}
	is := p.mount()
	if !is && !p.faulty {
		p.t.Fatal("not mounted")
	}
	return is
}

func (p *play) keepSome() {
	p.t.Helper()
	var keep []api.Keep
	var prefix []int
	share := p.number(4)
	for at := range p.geom.Conv * p.geom.Len {
		if p.number(3) < share {
			keep = append(keep, api.Keep{Sector: at, Back: p.number(3)})
		}
	}
	share = p.number(4)
	for range p.geom.Seq {
		n := p.number(p.geom.Len + 1)
		if p.number(3) >= share {
			n = p.number(2) * n
		}
		prefix = append(prefix, n)
	}
	must(p.t, p.disk.Crash(keep, prefix))
	p.part = len(commandsOf(p.disk))
}

// commandsOf is all commands that a disk was given.
func commandsOf(d *zdisk.Disk) []api.Cmd {
	var l []api.Cmd
	for c := range d.Cmds() {
		l = append(l, c)
	}
	return l
}

// rules wants that no command was refused, but for faults.
func (p *play) rules() {
	p.t.Helper()
	for _, c := range commandsOf(p.disk)[p.part:] {
		hurt := c.State == api.ZoneReadOnly || c.State == api.ZoneOffline
		switch {
		case c.Code == api.OK, p.faulty && c.Code == api.ErrMedia, p.faulty && hurt && c.Code == api.ErrState:
		default:
			p.t.Fatalf("against the rules: %v", c)
		}
	}
}

// sees reads all sectors, one by one: the model has to say that they may be so.
func (p *play) sees() {
	p.t.Helper()
	m := p.model
	if p.dev.Status().ReadOnly {
		// What is seen now need not last.
		m = m.Fork()
	}
	for at := range m.Sectors() {
		b, e := p.dev.Read(at, 1)
		if e != api.OK && (!p.faulty || e != api.ErrIO) {
			p.t.Fatalf("sector %d: %d", at, e)
		}
		if e == api.OK && !m.Saw(at, b) {
			p.t.Fatalf("sector %d is what it may not be", at)
		}
	}
}

// request does a request, and notes it.
func (p *play) request() {
	p.t.Helper()
	long := p.model.Sectors()
	switch p.number(10) {
	case 0:
		p.model.Flushed(p.dev.Flush())
	case 1, 2:
		n := 1 + p.number(long/2)
		x := s(p.number(long-n+1), n)
		e := p.dev.Discard(x)
		if !p.model.Discarded(x, e) {
			p.t.Fatal(x, e)
		}
	default:
		n := 1 + p.number(layout(p.geom).Run)
		at := p.number(long - n + 1)
		p.seed++
		b, fua := some(n, p.seed*31), p.number(8) == 0
		e := p.dev.Write(at, b, fua)
		if !p.model.Wrote(at, b, fua, e) {
			p.t.Fatal(at, n, e)
		}
	}
}

// clean does steps, or puts the device away and mounts it anew; it tells whether
// there is a device.
func (p *play) clean() bool {
	p.t.Helper()
	if p.number(25) == 0 {
		e := p.dev.Unmount()
		if e == api.OK {
			p.model.Flushed(e)
		} else {
			p.model.Crashed()
		}
		is := !p.disk.Off() && p.mount()
		if p.disk.Off() {
			return p.crash()
		}
		if !is && !p.faulty {
			p.t.Fatal("not mounted")
		}
		return is
	}
	for range 1 + p.number(20) {
		if is, e := p.dev.Step(); !is || e != api.OK {
			break
		}
	}
	return true
}

// fault lets something of the disk fail.
func (p *play) fault() {
	p.faulty = true
	switch p.number(4) {
	case 0:
		p.disk.Fail(1 + p.number(3))
	case 1:
		zone := p.geom.Conv + p.number(p.geom.Seq)
		if p.number(8) == 0 {
			zone = p.number(p.geom.Conv)
		}
		p.disk.Hurt(zone, api.ZoneReadOnly+p.number(2))
	default:
		p.disk.Spoil(p.number((p.geom.Conv + p.geom.Seq) * p.geom.Len))
	}
}

// run does n things.
func (p *play) run(n, faults, stops int) {
	p.t.Helper()
	for range n {
		if p.number(100) < stops {
			must(p.t, p.disk.Stop(p.number(40)))
		}
		is := true
		switch x := p.number(100); {
		case x < faults:
			p.fault()
		case p.disk.Off() || p.number(150) < stops:
			is = p.crash()
		case x < 60:
			p.request()
		default:
			is = p.clean()
		}
		if !is {
			return
		}
		if p.disk.Off() {
			if !p.crash() {
				return
			}
		}
		p.sees()
		if free := p.dev.Status().Free; free < 1 && !p.faulty {
			p.t.Fatal("no zone is free")
		}
	}
	p.rules()
}

// P23.7, P2, P3: behind a crash at any command, whatever is kept, in the course of
// mounting too, each sector has what it had at the last flush, or what was written
// to it since; no command is against the rules.
func TestCrashes(t *testing.T) {
	for seed := range uint64(100) {
		p := newPlay(t, []api.Geom{small, narrow, wide, crowded}[seed%4], numbers(seed))
		p.run(150, 0, 8)
	}
}

// P5: likewise, where the medium fails: each read tells what may be, or ErrIO.
func TestFaults(t *testing.T) {
	for seed := range uint64(400) {
		p := newPlay(t, []api.Geom{small, narrow, wide, crowded}[seed%4], numbers(7000+seed))
		p.run(100, 4, int(seed/4%3)*5)
	}
}
