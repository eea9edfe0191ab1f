package zdisk_test

import (
	"bytes"
	"slices"

	"thatch/api"
	"thatch/zdisk"
)

// plain is a disk as its chapter tells of it, sector by sector: contents are
// numbers (0 is bytes 0), of each sector all of them since the last flush, the
// sure one ahead. Of a sequential zone each sector that was written has one.
type plain struct {
	shape   api.Shape
	states  []int
	conv    [][]int
	seq     [][]int // of each sequential zone
	sure    []int   // of each sequential zone
	full    []bool  // likewise
	spoiled []bool  // of each sector
	fails   int
	stop    int // -1: it is not to go
	off     bool
	cmds    []api.Cmd
}

func newPlain(s api.Shape) *plain {
	p := &plain{shape: s, stop: -1}
	p.states = append(make([]int, s.Conv), slices.Repeat([]int{api.ZoneEmpty}, s.Seq)...)
	for range s.Conv * s.Len {
		p.conv = append(p.conv, []int{0})
	}
	p.seq = make([][]int, s.Seq)
	p.sure = make([]int, s.Seq)
	p.full = make([]bool, s.Seq)
	p.spoiled = make([]bool, (s.Conv+s.Seq)*s.Len)
	return p
}

func (p *plain) fork() *plain {
	f := *p
	f.states, f.sure, f.full = slices.Clone(p.states), slices.Clone(p.sure), slices.Clone(p.full)
	f.spoiled, f.cmds = slices.Clone(p.spoiled), slices.Clone(p.cmds)
	f.conv, f.seq = nil, nil
	for _, l := range p.conv {
		f.conv = append(f.conv, slices.Clone(l))
	}
	for _, l := range p.seq {
		f.seq = append(f.seq, slices.Clone(l))
	}
	return &f
}

// zone is what the disk reports; of no zone number -1.
func (p *plain) zone(i int) api.Zone {
	if i < 0 || i >= len(p.states) {
		return api.Zone{Number: -1}
	}
	z := api.Zone{Number: i, Kind: api.KindConv, State: p.states[i], Start: i * p.shape.Len, Len: p.shape.Len}
	if k := i - p.shape.Conv; k >= 0 {
		z.Kind, z.Written = api.KindSeq, len(p.seq[k])
	}
	return z
}

func (p *plain) opens() int {
	n := 0
	for _, s := range p.states {
		if s == api.ZoneImplicit || s == api.ZoneExplicit {
			n++
		}
	}
	return n
}

func (p *plain) unsure() int {
	n := 0
	for _, l := range p.conv {
		if len(l) > 1 {
			n++
		}
	}
	for k, l := range p.seq {
		n += len(l) - p.sure[k]
	}
	return n
}

// zoneOf is the zone of a sector; -1, if there is none.
func (p *plain) zoneOf(at int) int {
	if at < 0 || at >= len(p.spoiled) {
		return -1
	}
	return at / p.shape.Len
}

// content is what stands in a sector that is written.
func (p *plain) content(at int) int {
	if at < len(p.conv) {
		return p.conv[at][len(p.conv[at])-1]
	}
	at -= len(p.conv)
	return p.seq[at/p.shape.Len][at%p.shape.Len]
}

// read is the contents of n sectors.
func (p *plain) read(at, n int) ([]int, api.Errno) {
	z := p.zone(p.zoneOf(at))
	if z.Number < 0 || n < 1 {
		return nil, api.ErrArg
	}
	if z.State == api.ZoneOffline {
		return nil, api.ErrState
	}
	if n > z.Start+z.Len-at {
		return nil, api.ErrEnd
	}
	if z.Kind == api.KindSeq && at+n > z.Start+z.Written {
		return nil, api.ErrOrder
	}
	if slices.Contains(p.spoiled[at:at+n], true) {
		return nil, api.ErrMedia
	}
	var l []int
	for i := range n {
		l = append(l, p.content(at+i))
	}
	return l, api.OK
}

// room is what stands against one more open zone, and which zone is closed for it.
func (p *plain) room() (int, api.Errno) {
	if p.opens() < p.shape.Limit {
		return -1, api.OK
	}
	i := slices.Index(p.states, api.ZoneImplicit)
	if i < 0 {
		return -1, api.ErrLimit
	}
	return i, api.OK
}

// write writes contents; left says how many bytes beyond whole sectors there were.
func (p *plain) write(at int, contents []int, left int) api.Errno {
	z, n := p.zone(p.zoneOf(at)), len(contents)
	switch {
	case z.Number < 0, n == 0, left != 0:
		return api.ErrArg
	case z.State == api.ZoneFull, z.State == api.ZoneReadOnly, z.State == api.ZoneOffline:
		return api.ErrState
	case n > z.Start+z.Len-at:
		return api.ErrEnd
	case z.Kind == api.KindSeq && at != z.Start+z.Written:
		return api.ErrOrder
	}
	shut := -1
	if z.State == api.ZoneEmpty || z.State == api.ZoneClosed {
		i, e := p.room()
		if e != api.OK {
			return e
		}
		shut = i
	}
	if p.fails > 0 {
		p.fails--
		return api.ErrMedia
	}
	if shut >= 0 {
		p.states[shut] = api.ZoneClosed
	}
	for i, c := range contents {
		p.spoiled[at+i] = false
		if z.Kind == api.KindConv {
			p.conv[at+i] = append(p.conv[at+i], c)
		}
	}
	if z.Kind == api.KindSeq {
		k := z.Number - p.shape.Conv
		p.seq[k] = append(p.seq[k], contents...)
		if z.State != api.ZoneExplicit {
			p.states[z.Number] = api.ZoneImplicit
		}
		if len(p.seq[k]) == z.Len {
			p.states[z.Number] = api.ZoneFull
		}
	}
	return api.OK
}

// steer is Open, Close, Finish and Reset.
func (p *plain) steer(kind, i int) api.Errno {
	z := p.zone(i)
	k := i - p.shape.Conv
	switch {
	case z.Number < 0:
		return api.ErrArg
	case z.Kind == api.KindConv:
		return api.ErrKind
	case z.State == api.ZoneReadOnly || z.State == api.ZoneOffline:
		return api.ErrState
	}
	switch kind {
	case api.CmdOpen:
		if z.State == api.ZoneFull {
			return api.ErrState
		}
		if z.State == api.ZoneEmpty || z.State == api.ZoneClosed {
			shut, e := p.room()
			if e != api.OK {
				return e
			}
			if shut >= 0 {
				p.states[shut] = api.ZoneClosed
			}
		}
		p.states[i] = api.ZoneExplicit
	case api.CmdClose:
		if z.State == api.ZoneFull || z.State == api.ZoneEmpty {
			return api.ErrState
		}
		p.states[i] = api.ZoneClosed
		if z.Written == 0 {
			p.states[i] = api.ZoneEmpty
		}
	case api.CmdFinish:
		p.states[i] = api.ZoneFull
	case api.CmdReset:
		p.states[i] = api.ZoneEmpty
		p.seq[k], p.sure[k], p.full[k] = nil, 0, false
		for s := range z.Len {
			p.spoiled[z.Start+s] = false
		}
	}
	return api.OK
}

func (p *plain) flush() {
	for i, l := range p.conv {
		p.conv[i] = l[len(l)-1:]
	}
	for k, l := range p.seq {
		p.sure[k] = len(l)
		p.full[k] = p.states[p.shape.Conv+k] == api.ZoneFull
	}
}

// note is what is done for each command: ahead is what was there ahead of it.
func (p *plain) note(ahead, c api.Cmd) {
	p.cmds = append(p.cmds, api.Cmd{Kind: c.Kind, At: c.At, N: c.N, Code: c.Code, Zone: ahead.Zone, State: ahead.State, Written: ahead.Written, Opens: ahead.Opens})
	if c.Code != api.OK || c.Kind == api.CmdRead || p.stop < 0 {
		return
	}
	if p.stop--; p.stop == 0 {
		p.off, p.stop = true, -1
	}
}

// ahead is what a command to a zone notes of what is there.
func (p *plain) ahead(i int) api.Cmd {
	z := p.zone(i)
	return api.Cmd{Zone: z.Number, State: z.State, Written: z.Written, Opens: p.opens()}
}

func (p *plain) crash(keep []api.Keep, prefix []int) api.Errno {
	for _, k := range keep {
		if k.Sector < 0 || k.Sector >= len(p.conv) {
			return api.ErrArg
		}
	}
	for at, l := range p.conv {
		kept := 0
		if i := slices.IndexFunc(keep, func(k api.Keep) bool { return k.Sector == at }); i >= 0 {
			if b := keep[i].Back; b >= 0 && b < len(l) {
				kept = len(l) - 1 - b
			}
		}
		p.conv[at] = []int{l[kept]}
	}
	for k, l := range p.seq {
		n := 0
		if k < len(prefix) && prefix[k] > 0 {
			n = prefix[k]
		}
		if n < len(l)-p.sure[k] {
			p.seq[k] = l[:p.sure[k]+n]
		}
		z := p.zone(p.shape.Conv + k)
		switch {
		case z.State == api.ZoneReadOnly || z.State == api.ZoneOffline:
		case p.full[k] || z.Written == z.Len:
			p.states[z.Number] = api.ZoneFull
		case z.Written == 0:
			p.states[z.Number] = api.ZoneEmpty
		default:
			p.states[z.Number] = api.ZoneClosed
		}
	}
	p.flush()
	p.fails, p.stop, p.off = 0, -1, false
	return api.OK
}

func (p *plain) hurt(i, state int) api.Errno {
	z := p.zone(i)
	if z.Number < 0 || state != api.ZoneReadOnly && state != api.ZoneOffline {
		return api.ErrArg
	}
	if z.State == api.ZoneOffline || z.State == state {
		return api.ErrState
	}
	p.states[i] = state
	return api.OK
}

func (p *plain) spoil(at int) api.Errno {
	z := p.zone(p.zoneOf(at))
	if z.Number < 0 {
		return api.ErrArg
	}
	if p.spoiled[at] || z.Kind == api.KindSeq && at >= z.Start+z.Written {
		return api.ErrNone
	}
	p.spoiled[at] = true
	return api.OK
}

// pack is the bytes of contents: of 0 bytes 0, of others each another one.
func pack(contents []int) []byte {
	var b []byte
	for _, c := range contents {
		s := make([]byte, api.SectorBytes)
		for i := range s {
			if c != 0 {
				s[i] = byte(c>>(i%4*8)) ^ byte(i)
			}
		}
		b = append(b, s...)
	}
	return b
}

// both is a disk, and the plain one that goes with it.
type both struct {
	d *zdisk.Disk
	p *plain
}

func (x both) fork() both {
	return both{x.d.Fork(), x.p.fork()}
}

// count is a row of contents, none of which was there ahead.
type count int

func (c *count) next(n int) []int {
	l := make([]int, n)
	for i := range l {
		*c++
		l[i] = int(*c)
	}
	return l
}

// read reads from both: what it told, what it should, and whether they are one.
func (x both) read(at, n int) (api.Errno, api.Errno, bool) {
	b, e := x.d.Read(at, n)
	if x.p.off {
		return e, api.ErrOff, len(b) == 0
	}
	ahead := x.p.ahead(x.p.zoneOf(at))
	l, code := x.p.read(at, n)
	x.p.note(ahead, api.Cmd{Kind: api.CmdRead, At: at, N: n, Code: code})
	return e, code, bytes.Equal(b, pack(l)) && len(b) == len(l)*api.SectorBytes
}

// write writes to both: contents, and some bytes more.
func (x both) write(at int, contents []int, left int) (api.Errno, api.Errno) {
	b := append(pack(contents), make([]byte, left)...)
	given := bytes.Clone(b)
	e := x.d.Write(at, b)
	if !bytes.Equal(b, given) {
		return e, -1
	}
	clear(b) // What was handed in is not kept.
	if x.p.off {
		return e, api.ErrOff
	}
	ahead := x.p.ahead(x.p.zoneOf(at))
	code := x.p.write(at, contents, left)
	x.p.note(ahead, api.Cmd{Kind: api.CmdWrite, At: at, N: len(contents), Code: code})
	return e, code
}

// steer gives both a command to a zone, or a flush.
func (x both) steer(kind, i int) (api.Errno, api.Errno) {
	var e, code api.Errno
	switch kind {
	case api.CmdOpen:
		e = x.d.Open(i)
	case api.CmdClose:
		e = x.d.Close(i)
	case api.CmdFinish:
		e = x.d.Finish(i)
	case api.CmdReset:
		e = x.d.Reset(i)
	default:
		e, i = x.d.Flush(), -1
	}
	if x.p.off {
		return e, api.ErrOff
	}
	ahead := x.p.ahead(i)
	if kind == api.CmdFlush {
		x.p.flush()
	} else {
		code = x.p.steer(kind, i)
	}
	x.p.note(ahead, api.Cmd{Kind: kind, Code: code})
	return e, code
}

func (x both) fail(n int) (api.Errno, api.Errno) {
	e := x.d.Fail(n)
	if n < 0 {
		return e, api.ErrArg
	}
	x.p.fails = n
	return e, api.OK
}

func (x both) stop(n int) (api.Errno, api.Errno) {
	e := x.d.Stop(n)
	if x.p.off {
		return e, api.OK
	}
	x.p.stop = max(n, -1)
	if n == 0 {
		x.p.off, x.p.stop = true, -1
	}
	return e, api.OK
}
