package stl_test

import (
	"bytes"
	"slices"
	"testing"

	"thatch/api"
	"thatch/stl"
	"thatch/zdisk"
)

// pair is a device and its shadow, with which the same things are done.
type pair struct {
	t      *testing.T
	geom   api.Geom
	opts   api.Options
	number func(int) int
	disk   *zdisk.Disk
	other  *zdisk.Disk // the shadow's
	dev    *stl.Device
	shadow *shadow
	seed   int
	over   bool // it is not mounted any more, or is told no further
	loose  bool // it may be another one by now
}

func newPair(t *testing.T, x api.Geom, number func(int) int) *pair {
	t.Helper()
	d := formatted(t, x)
	p := &pair{t: t, geom: x, number: number, disk: d, other: d.Fork()}
	p.mount()
	return p
}

func (p *pair) same(what string, got, want any) {
	p.t.Helper()
	if got != want {
		p.t.Fatalf("%s: %v, not %v", what, got, want)
	}
}

func (p *pair) mount() {
	p.t.Helper()
	p.opts = options([]int{1, 3, 4, 20, 4096}[p.number(5)], 1+p.number(2))
	v, e := stl.Mount(p.disk, p.opts)
	w, other := newShadow(p.t, p.geom, p.other, p.opts)
	p.same("Mount", e, other)
	p.dev, p.shadow = v, w
	p.over = e != api.OK
	if p.over && v != nil {
		p.t.Fatal("a device beside an error")
	}
}

// crash crashes both, keeping the same.
func (p *pair) crash() {
	p.t.Helper()
	var keep []api.Keep
	var prefix []int
	share := p.number(4)
	for at := range p.geom.Conv * p.geom.Len {
		if p.number(3) < share {
			keep = append(keep, api.Keep{Sector: at, Back: p.number(2)})
		}
	}
	for range p.geom.Seq {
		prefix = append(prefix, p.number(p.geom.Len+1))
	}
	must(p.t, p.disk.Crash(keep, prefix), p.other.Crash(keep, prefix))
	p.mount()
}

// span is any span, some of which the device does not have.
func (p *pair) span(most int) api.Span {
	long := layout(p.geom).Sectors
	n := 1 + p.number(most)
	at := p.number(long - min(n, long) + 1)
	if p.number(25) == 0 {
		at += p.number(4)*most - most
	}
	return s(at, n)
}

// request does a request, or several, with both.
func (p *pair) request() {
	p.t.Helper()
	v, w := p.dev, p.shadow
	switch p.number(12) {
	case 0, 1, 2, 3, 4, 5:
		x := p.span(layout(p.geom).Run + p.number(12)/11)
		p.seed++
		data := some(x.N, p.seed*31)
		if p.number(40) == 0 {
			data = data[:p.number(len(data))]
		}
		fua := p.number(6) == 0
		p.same("Write", v.Write(x.At, data, fua), w.end(w.write(x.At, data, fua)))
	case 6, 7:
		x := p.span(1 + p.number(layout(p.geom).Sectors))
		p.same("Discard", v.Discard(x), w.end(w.discard(x)))
	case 8:
		p.same("Flush", v.Flush(), w.end(w.commit()))
	case 9:
		x := p.span(1 + p.number(layout(p.geom).Sectors))
		b, e := v.Read(x.At, x.N)
		c, other := w.read(x)
		p.same("Read", e, other)
		p.same("Read's bytes", bytes.Equal(b, c), true)
	case 10:
		policy := 1 + p.number(2)
		p.same("SetPolicy", v.SetPolicy(policy), api.OK)
		w.opts.Policy = policy
	default:
		l, e := v.Verify()
		p.same("Verify", e, api.OK)
		p.same("Verify's bands", slices.Equal(l, w.verify()), true)
	}
}

// clean does steps with both, or drains them, or puts them away.
func (p *pair) clean() {
	p.t.Helper()
	v, w := p.dev, p.shadow
	switch p.number(60) {
	case 0:
		n, e := v.Drain()
		m, other := w.drain()
		if w.open {
			// One of them may have gone on.
			p.over, p.loose = true, true
			return
		}
		p.same("Drain", e, other)
		p.same("Drain's steps", n, m)
		return
	case 1:
		p.same("Unmount", v.Unmount(), w.end(w.unmount()))
		p.same("Flush behind it", v.Flush(), api.ErrClosed)
		if p.disk.Off() {
			p.crash()
		} else {
			p.mount()
		}
		return
	}
	for range 1 + p.number(12) {
		is, e := v.Step()
		did, other := w.step()
		p.same("Step does something", is, did)
		if !w.open {
			p.same("Step", e, other)
		}
		if p.disk.Off() || w.open {
			return
		}
	}
}

// fault lets something of both disks fail.
func (p *pair) fault() {
	p.t.Helper()
	switch p.number(4) {
	case 0:
		n := 1 + p.number(3)
		must(p.t, p.disk.Fail(n), p.other.Fail(n))
	case 1:
		// Seldom one that is conventional.
		zone := p.geom.Conv + p.number(p.geom.Seq)
		if p.number(8) == 0 {
			zone = p.number(p.geom.Conv)
		}
		state := api.ZoneReadOnly + p.number(2)
		p.same("Hurt", p.disk.Hurt(zone, state), p.other.Hurt(zone, state))
	default:
		at := p.geom.Conv*p.geom.Len + p.number(p.geom.Seq*p.geom.Len)
		p.same("Spoil", p.disk.Spoil(at), p.other.Spoil(at))
	}
}

// alike wants that the device tells what its shadow does, and that their disks
// are the same.
func (p *pair) alike() {
	p.t.Helper()
	if got, want := p.dev.Status(), p.shadow.status(); got != want {
		p.t.Fatalf("status %+v, not %+v", got, want)
	}
	if got, want := p.dev.State(), p.shadow.state(); !same(got, want) {
		p.t.Fatalf("state %v, not %v", got, want)
	}
	p.same("Geom", p.dev.Geom(), p.geom)
	for at := range layout(p.geom).Sectors {
		zone, off, e := p.dev.Where(at)
		if want := p.shadow.place(at); e != api.OK || zone != want.zone || off != want.off {
			p.t.Fatalf("sector %d lies in %d, %d, not %v: %d", at, zone, off, want, e)
		}
	}
	for i := range p.geom.Conv + p.geom.Seq {
		a, _ := p.disk.Zone(i)
		b, _ := p.other.Zone(i)
		p.same("a zone of the disk", a, b)
	}
}

// commands is all commands that a disk was given, but for reads.
func commands(d *zdisk.Disk) []api.Cmd {
	var l []api.Cmd
	for c := range d.Cmds() {
		if c.Kind != api.CmdRead {
			l = append(l, c)
		}
	}
	return l
}

// end wants that all commands were the same, and all that stands on the disks.
func (p *pair) end() {
	p.t.Helper()
	a, b := commands(p.disk), commands(p.other)
	for i := range min(len(a), len(b)) {
		p.same("a command", a[i], b[i])
	}
	p.same("commands", len(a), len(b))
	must(p.t, p.disk.Crash(nil, nil), p.other.Crash(nil, nil))
	for at := range (p.geom.Conv + p.geom.Seq) * p.geom.Len {
		x, e := p.disk.Read(at, 1)
		y, other := p.other.Read(at, 1)
		p.same("what stands on the disk", bytes.Equal(x, y) && e == other, true)
	}
}

// play does many things with a pair: of a hundred so many are faults, and behind
// so many of a hundred the power goes some time.
func (p *pair) play(n, faults, stops int) {
	p.t.Helper()
	for i := 0; i < n && !p.over; i++ {
		if p.number(100) < stops {
			n := p.number(40)
			must(p.t, p.disk.Stop(n), p.other.Stop(n))
		}
		switch x := p.number(100); {
		case x < faults:
			p.fault()
		case p.disk.Off():
		case x < 60:
			p.request()
		default:
			p.clean()
		}
		switch {
		case p.over:
		case p.disk.Off():
			p.same("Flush", p.dev.Flush(), api.ErrOff)
			p.crash()
		default:
			p.alike()
			p.over = p.shadow.open
		}
	}
	if !p.loose {
		p.end()
	}
}

// P23.1 to P23.5, P23.8: a device answers, gives its disk commands, and has a state
// and a status as its shadow does, where nothing fails.
func TestAny(t *testing.T) {
	for seed := range uint64(40) {
		p := newPair(t, []api.Geom{small, narrow, wide, crowded}[seed%4], numbers(seed))
		p.play(250, 0, 0)
	}
}

// The same, where the power goes, and where the medium fails.
func TestAnyFaults(t *testing.T) {
	for seed := range uint64(160) {
		p := newPair(t, []api.Geom{small, narrow, wide, crowded}[seed%4], numbers(1000+seed))
		p.play(120, int(seed/4%3)*3, int(seed/12%3)*5)
	}
}
