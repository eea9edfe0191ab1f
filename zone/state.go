package zone

import "thatch/api"

// refused is why a zone's state can not be changed, whatever it is to be.
func refused(z api.Zone) api.Errno {
	switch {
	case !May(z):
		return api.ErrArg
	case z.Kind == api.KindConv:
		return api.ErrKind
	case isHurt(z):
		return api.ErrState
	}
	return api.OK
}

// Open opens a zone explicitly.
func Open(z api.Zone) (api.Zone, api.Errno) {
	if e := refused(z); e != api.OK {
		return api.Zone{}, e
	}
	if z.State == api.ZoneFull {
		return api.Zone{}, api.ErrState
	}
	z.State = api.ZoneExplicit
	return z, api.OK
}

// Close closes a zone that is open, or closed already.
func Close(z api.Zone) (api.Zone, api.Errno) {
	if e := refused(z); e != api.OK {
		return api.Zone{}, e
	}
	switch z.State {
	case api.ZoneImplicit, api.ZoneExplicit:
		z.State = api.ZoneClosed
		if z.Written == 0 {
			z.State = api.ZoneEmpty
		}
		fallthrough
	case api.ZoneClosed:
		return z, api.OK
	}
	return api.Zone{}, api.ErrState
}

// Finish makes a zone full, whatever is written.
func Finish(z api.Zone) (api.Zone, api.Errno) {
	if e := refused(z); e != api.OK {
		return api.Zone{}, e
	}
	z.State = api.ZoneFull
	return z, api.OK
}

// Reset empties a zone.
func Reset(z api.Zone) (api.Zone, api.Errno) {
	if e := refused(z); e != api.OK {
		return api.Zone{}, e
	}
	z.State, z.Written = api.ZoneEmpty, 0
	return z, api.OK
}

// Hurt makes a zone read-only, or offline; an offline one stays so.
func Hurt(z api.Zone, state int) (api.Zone, api.Errno) {
	if !May(z) || state != api.ZoneReadOnly && state != api.ZoneOffline {
		return api.Zone{}, api.ErrArg
	}
	if z.State == api.ZoneOffline || z.State == state {
		return api.Zone{}, api.ErrState
	}
	z.State = state
	return z, api.OK
}
