package stl

import (
	"cmp"
	"iter"
	"slices"

	"thatch/api"
	"thatch/band"
	"thatch/geom"
	"thatch/span"
)

// atHome is where logical sectors lie of which the map says nothing: band by band.
func (v *Device) atHome(gap api.Span) []api.Extent {
	var l []api.Extent
	for _, part := range span.Split(gap, v.layout.BandLen) {
		x := api.Extent{At: part.At, N: part.N, Zone: api.NoZone}
		b, i := geom.Band(v.geom, part.At)
		if home := v.homes[b]; home != api.NoZone {
			// The label stands ahead of the band's sectors.
			x.Zone, x.Off = home, i+1
		}
		l = append(l, x)
	}
	return l
}

// places goes over where logical sectors lie, rising; over nothing, if the device
// does not have all of them.
func (v *Device) places(s api.Span) iter.Seq[api.Extent] {
	return func(yield func(api.Extent) bool) {
		l, gaps, _ := v.lies.Look(s)
		for _, gap := range gaps {
			l = append(l, v.atHome(gap)...)
		}
		slices.SortFunc(l, func(a, b api.Extent) int { return cmp.Compare(a.At, b.At) })
		for _, x := range l {
			if !yield(x) {
				return
			}
		}
	}
}

// content is what stands where logical sectors lie.
func (v *Device) content(x api.Extent) ([]byte, api.Errno) {
	if x.Zone == api.NoZone {
		return make([]byte, x.N*api.SectorBytes), api.OK
	}
	return v.disk.Read(geom.Zone(v.geom, x.Zone).At+x.Off, x.N)
}

// sectors is logical sectors that the device has.
func (v *Device) sectors(s api.Span) ([]byte, api.Errno) {
	all := make([]byte, 0, s.N*api.SectorBytes)
	for x := range v.places(s) {
		b, e := v.content(x)
		if e != api.OK {
			return nil, api.ErrIO
		}
		all = append(all, b...)
	}
	return all, api.OK
}

// Read is n logical sectors, from one on.
func (v *Device) Read(at, n int) ([]byte, api.Errno) {
	if e := v.open(); e != api.OK {
		return nil, e
	}
	s := api.Span{At: at, N: n}
	if e := geom.Check(v.geom, s); e != api.OK {
		return nil, e
	}
	b, e := v.sectors(s)
	return b, v.told(e)
}

// Where is where a logical sector lies: its zone and the sector of it; NoZone and
// 0, if it is bytes 0.
func (v *Device) Where(at int) (int, int, api.Errno) {
	if e := v.open(); e != api.OK {
		return 0, 0, e
	}
	for x := range v.places(api.Span{At: at, N: 1}) {
		return x.Zone, x.Off, api.OK
	}
	return 0, 0, api.ErrRange
}

// Verify is the bands, rising, of which the home is not what it was made.
func (v *Device) Verify() ([]int, api.Errno) {
	if e := v.open(); e != api.OK {
		return nil, e
	}
	var wrong []int
	for b, home := range v.homes {
		if home != api.NoZone && !v.isWhole(b, home) {
			wrong = append(wrong, b)
		}
	}
	return wrong, api.OK
}

// isWhole tells whether a zone has the label of a band, and the content of which
// that is.
func (v *Device) isWhole(b, home int) bool {
	z, e := v.disk.Zone(home)
	if e != api.OK || z.Written < z.Len {
		return false
	}
	sectors, e := v.disk.Read(z.Start, z.Len)
	if e != api.OK {
		return false
	}
	t, e := band.Decode(v.geom, sectors[:api.SectorBytes])
	return e == api.OK && t.Band == b && band.Right(v.geom, t, sectors[api.SectorBytes:])
}
