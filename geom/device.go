package geom

import (
	"thatch/api"
	"thatch/span"
)

// Band is the band of a logical sector, and where in it that is; -1 and -1, if
// there is no such sector.
func Band(g api.Geom, at int) (int, int) {
	l, e := Layout(g)
	if e != api.OK || at < 0 || at >= l.Sectors {
		return -1, -1
	}
	return at / l.BandLen, at % l.BandLen
}

// BandSpan is a band's logical sectors; {0, 0}, if there is no such band.
func BandSpan(g api.Geom, band int) api.Span {
	l, e := Layout(g)
	if e != api.OK || band < 0 || band >= l.Bands {
		return api.Span{}
	}
	return api.Span{At: band * l.BandLen, N: l.BandLen}
}

// Check tells whether the device has all of s, and s has anything.
func Check(g api.Geom, s api.Span) api.Errno {
	l, e := Layout(g)
	if e != api.OK {
		return e
	}
	if !span.May(s) || s.N == 0 || span.End(s) > l.Sectors {
		return api.ErrRange
	}
	return api.OK
}

// Runs is s, cut so that each piece is within one band, and can be written at
// once; nothing, if Check says no.
func Runs(g api.Geom, s api.Span) []api.Span {
	if Check(g, s) != api.OK {
		return nil
	}
	l := follows(g)
	var runs []api.Span
	for _, part := range span.Split(s, l.BandLen) {
		for from := part.At; from < span.End(part); from += l.Run {
			runs = append(runs, api.Span{At: from, N: min(l.Run, span.End(part)-from)})
		}
	}
	return runs
}
