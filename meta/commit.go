package meta

import (
	"slices"

	"thatch/api"
	"thatch/page"
	"thatch/record"
	"thatch/ring"
	"thatch/super"
)

// do does steps; where one is refused nothing is written any more.
func (m *Meta) do(steps ...step) api.Errno {
	e := inTurn(steps...)
	m.dead = e != api.OK
	return e
}

// Checkpoint lets a state last as a whole; the journal behind it is a new one.
func (m *Meta) Checkpoint(s api.State, clean bool) api.Errno {
	if m == nil {
		return api.ErrClosed
	}
	if !page.May(m.super.Geom, s) {
		return api.ErrArg
	}
	if m.dead {
		return api.ErrClosed
	}
	// All that may be refused without a command goes ahead of the first one.
	b, e := super.Next(m.super, 1-m.super.Slot, m.super.Epoch+1, m.next(), clean)
	if e != api.OK {
		return api.ErrArg
	}
	journal, e := ring.New(m.disk, b.Geom, b.Epoch, b.First)
	if e != api.OK {
		return e
	}
	steps, e := checkpoint(m.disk, b, s)
	if e != api.OK {
		return e
	}
	if e := m.do(steps...); e != api.OK {
		return e
	}
	m.super, m.ring = b, journal
	return api.OK
}

// Commit lets deltas last, behind which the state is s; it tells whether a
// checkpoint was made of it, as the journal had no room.
func (m *Meta) Commit(l []api.Delta, s api.State) (bool, api.Errno) {
	if m.Dead() || m.ring == nil {
		return false, api.ErrClosed
	}
	if !page.May(m.super.Geom, s) || !mayAll(l) {
		return false, api.ErrArg
	}
	// What the deltas tell of has to be there when they are.
	if e := m.do(m.disk.Flush); e != api.OK || len(l) == 0 {
		return false, e
	}
	if m.ring.Room() < record.Needs(len(l)) {
		e := m.Checkpoint(s, false)
		return e == api.OK, e
	}
	return false, m.journal(l, s.Upto)
}

// mayAll tells whether deltas may be.
func mayAll(l []api.Delta) bool {
	return !slices.ContainsFunc(l, func(d api.Delta) bool { return !record.MayDelta(d) })
}

// journal appends a group of deltas.
func (m *Meta) journal(l []api.Delta, upto int) api.Errno {
	if _, e := m.ring.Append(l, upto); e != api.OK {
		// A group that may not be is refused without a command.
		m.dead = m.ring.Dead()
		return e
	}
	return m.do(m.disk.Flush)
}
