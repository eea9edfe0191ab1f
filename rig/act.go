package rig

import (
	"bytes"

	"thatch/api"
	"thatch/geom"
	"thatch/stl"
)

// Bounds of an act's N.
const (
	mostData  = 4096 // sectors of a request's data
	mostSteps = 4096
)

// way is a kind of act: how it is done, and its line: the word, and a letter for
// each field behind it (a: At, n: N, b: B, z: Zone, k: Keep, p: Prefix).
type way struct {
	kind   int
	do     func(r *Rig, a api.Act) api.Errno
	word   string
	fields string
}

// ways are all kinds.
func ways() []way {
	return []way{
		{api.ActWrite, (*Rig).write, "write", "anb"},
		{api.ActForce, (*Rig).write, "force", "anb"},
		{api.ActRead, (*Rig).read, "read", "an"},
		{api.ActDiscard, (*Rig).discard, "discard", "an"},
		{api.ActFlush, (*Rig).flush, "flush", ""},
		{api.ActStep, (*Rig).step, "step", "n"},
		{api.ActPolicy, (*Rig).policy, "policy", "n"},
		{api.ActCrash, (*Rig).crash, "crash", "kp"},
		{api.ActMount, (*Rig).mount, "mount", ""},
		{api.ActUnmount, (*Rig).unmount, "unmount", ""},
		{api.ActStop, (*Rig).stop, "stop", "n"},
		{api.ActFail, (*Rig).fail, "fail", "n"},
		{api.ActHurt, (*Rig).hurt, "hurt", "zn"},
		{api.ActSpoil, (*Rig).spoil, "spoil", "a"},
	}
}

// Do does an act; it tells what the device, or the disk, told.
func (r *Rig) Do(a api.Act) api.Errno {
	if r == nil {
		return api.ErrClosed
	}
	for _, w := range ways() {
		if w.kind == a.Kind {
			return w.do(r, a)
		}
	}
	return api.ErrArg
}

// Data is what a request writes: sectors of b, each of which tells its place.
func Data(b byte, n int) []byte {
	if n < 0 || n > mostData {
		return nil
	}
	data := make([]byte, n*api.SectorBytes)
	for i := range n {
		sector := data[i*api.SectorBytes : (i+1)*api.SectorBytes]
		sector[0] = b
		sector[1] = byte(i)
		sector[api.SectorBytes-1] = ^b
	}
	return data
}

func (r *Rig) write(a api.Act) api.Errno {
	if a.N < 0 || a.N > mostData {
		return api.ErrArg
	}
	data, fua := Data(a.B, a.N), a.Kind == api.ActForce
	e := r.device.Write(a.At, data, fua)
	r.model.Wrote(a.At, data, fua, e)
	return e
}

func (r *Rig) discard(a api.Act) api.Errno {
	s := api.Span{At: a.At, N: a.N}
	e := r.device.Discard(s)
	r.model.Discarded(s, e)
	return e
}

func (r *Rig) flush(api.Act) api.Errno {
	e := r.device.Flush()
	r.model.Flushed(e)
	return e
}

func (r *Rig) read(a api.Act) api.Errno {
	b, e := r.device.Read(a.At, a.N)
	switch e {
	case api.OK:
		if !r.saw(a.At, b) {
			r.wrong = true
		}
	case api.ErrClosed, api.ErrOff:
	default:
		if !r.faulty && geom.Check(r.geom, api.Span{At: a.At, N: a.N}) == api.OK {
			r.wrong = true
		}
	}
	return e
}

// saw tells the model what a read told; it tells whether that may be.
func (r *Rig) saw(at int, b []byte) bool {
	if !r.device.Status().ReadOnly {
		return r.model.Saw(at, b)
	}
	// What is seen here need not last: the model is not to know of it. (A fork of
	// it would say the same, but a sweep would make one for each sector.)
	for i := range len(b) / api.SectorBytes {
		if !isOneOf(r.model.Now(at+i), b[i*api.SectorBytes:(i+1)*api.SectorBytes]) {
			return false
		}
	}
	return true
}

// isOneOf tells whether a content is among others.
func isOneOf(l [][]byte, content []byte) bool {
	for _, one := range l {
		if bytes.Equal(one, content) {
			return true
		}
	}
	return false
}

func (r *Rig) step(a api.Act) api.Errno {
	if r.device == nil {
		return api.ErrClosed
	}
	for range min(a.N, mostSteps) {
		if is, e := r.device.Step(); !is || e != api.OK {
			return e
		}
	}
	return api.OK
}

func (r *Rig) policy(a api.Act) api.Errno {
	return r.device.SetPolicy(a.N)
}

func (r *Rig) crash(a api.Act) api.Errno {
	e := r.disk.Crash(a.Keep, a.Prefix)
	if e != api.OK {
		return e
	}
	r.device = nil
	r.model.Crashed()
	n := 0
	for range r.disk.Cmds() {
		n++
	}
	r.crashes = append(r.crashes, n)
	return api.OK
}

func (r *Rig) mount(api.Act) api.Errno {
	if r.device != nil {
		return api.ErrTwice
	}
	v, e := stl.Mount(r.disk, r.options)
	if e == api.OK {
		r.device = v
	}
	return e
}

func (r *Rig) unmount(api.Act) api.Errno {
	if r.device == nil {
		return api.ErrClosed
	}
	e := r.device.Unmount()
	r.device = nil
	if e == api.OK {
		r.model.Flushed(e)
	} else {
		// What was not settled need not be found by the next mount.
		r.model.Crashed()
	}
	return e
}

func (r *Rig) stop(a api.Act) api.Errno {
	return r.disk.Stop(a.N)
}

func (r *Rig) fail(a api.Act) api.Errno {
	return r.harmed(r.disk.Fail(a.N))
}

func (r *Rig) hurt(a api.Act) api.Errno {
	return r.harmed(r.disk.Hurt(a.Zone, a.N))
}

func (r *Rig) spoil(a api.Act) api.Errno {
	return r.harmed(r.disk.Spoil(a.At))
}

// harmed notes a fault of the disk, if it is one.
func (r *Rig) harmed(e api.Errno) api.Errno {
	if e == api.OK {
		r.faulty = true
	}
	return e
}
