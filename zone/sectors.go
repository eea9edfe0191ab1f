package zone

import "thatch/api"

// has tells whether n sectors from a sector of the disk on are all within a zone.
func has(z api.Zone, at, n int) bool {
	// What is left of the zone behind at is held against n: the sum of both
	// might be too great for an int.
	return at >= z.Start && at < z.Start+z.Len && n <= z.Start+z.Len-at
}

// Write is a zone behind n sectors written from a sector of the disk on.
func Write(z api.Zone, at, n int) (api.Zone, api.Errno) {
	switch {
	case !May(z), n < 1:
		return api.Zone{}, api.ErrArg
	case isHurt(z), z.State == api.ZoneFull:
		return api.Zone{}, api.ErrState
	case !has(z, at, n):
		return api.Zone{}, api.ErrEnd
	case z.Kind == api.KindConv:
		return z, api.OK
	case at != z.Start+z.Written:
		return api.Zone{}, api.ErrOrder
	}
	z.Written += n
	switch z.State {
	case api.ZoneEmpty, api.ZoneClosed:
		z.State = api.ZoneImplicit
		fallthrough
	case api.ZoneImplicit, api.ZoneExplicit:
		if z.Written == z.Len {
			z.State = api.ZoneFull
		}
	}
	return z, api.OK
}

// Read tells whether n sectors from a sector of the disk on can be read.
func Read(z api.Zone, at, n int) api.Errno {
	switch {
	case !May(z), n < 1:
		return api.ErrArg
	case z.State == api.ZoneOffline:
		return api.ErrState
	case !has(z, at, n):
		return api.ErrEnd
	case z.Kind == api.KindSeq && n > z.Start+z.Written-at:
		return api.ErrOrder
	}
	return api.OK
}

// Left is how many sectors of a sequential zone can be written still.
func Left(z api.Zone) int {
	if !May(z) || z.Kind == api.KindConv {
		return 0
	}
	switch z.State {
	case api.ZoneFull, api.ZoneReadOnly, api.ZoneOffline:
		return 0
	}
	return z.Len - z.Written
}

// Pointer is the sector of the disk where a sequential zone is written next;
// -1, if it can not be.
func Pointer(z api.Zone) int {
	if Left(z) == 0 {
		return -1
	}
	return z.Start + z.Written
}
