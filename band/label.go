package band

import (
	"thatch/api"
	"thatch/crc"
	"thatch/geom"
	"thatch/le"
)

// mark is what a label begins with, behind the sum of its sector; sumBytes is
// how many bytes a sum takes, mostSum the greatest one.
const (
	mark     = "LB"
	sumBytes = 4
	mostSum  = 1<<32 - 1
)

// MayLabel tells whether there may be such a label.
func MayLabel(g api.Geom, t api.Label) bool {
	l, e := geom.Layout(g)
	return e == api.OK && t.Band >= 0 && t.Band < l.Bands &&
		t.Upto >= 0 && t.Upto <= api.MaxRecord &&
		t.Sum >= 0 && t.Sum <= mostSum
}

// Encode is the sector of a label.
func Encode(g api.Geom, t api.Label) ([]byte, api.Errno) {
	if !geom.May(g) {
		return nil, api.ErrGeom
	}
	if !MayLabel(g, t) {
		return nil, api.ErrArg
	}
	w := le.New(api.SectorBytes - sumBytes).Bytes([]byte(mark))
	body, e := w.Put(4, uint64(t.Band)).Put(8, uint64(t.Upto)).Put(4, uint64(t.Sum)).Done()
	if e != api.OK {
		return nil, e
	}
	return crc.Seal(body)
}

// Decode is the label of a sector.
func Decode(g api.Geom, b []byte) (api.Label, api.Errno) {
	if !geom.May(g) {
		return api.Label{}, api.ErrGeom
	}
	t, is := labelOf(b)
	if !is || !MayLabel(g, t) {
		return api.Label{}, api.ErrCode
	}
	return t, api.OK
}

// labelOf is what a label's sector says, and tells whether it is one. What the
// label may be is MayLabel's to say: here its numbers are what they have room for.
func labelOf(sector []byte) (api.Label, bool) {
	if !crc.Check(sector) {
		return api.Label{}, false
	}
	r := le.Take(sector[sumBytes:])
	if string(r.Bytes(len(mark))) != mark {
		return api.Label{}, false
	}
	var t api.Label
	t.Band = int(r.Get(4))
	t.Upto = int(r.Get(8))
	t.Sum = int(r.Get(4))
	// Nothing stands behind a label's numbers.
	return t, r.Done() == api.OK
}

// Of is the label of a band's content, in which all is up to a batch.
func Of(g api.Geom, band, upto int, content []byte) (api.Label, api.Errno) {
	l, e := geom.Layout(g)
	if e != api.OK {
		return api.Label{}, e
	}
	t := api.Label{Band: band, Upto: upto, Sum: int(crc.Sum(content))}
	if !isContent(l, content) || !MayLabel(g, t) {
		return api.Label{}, api.ErrArg
	}
	return t, api.OK
}

// Right tells whether a label is that of a content.
func Right(g api.Geom, t api.Label, content []byte) bool {
	of, e := Of(g, t.Band, t.Upto, content)
	return e == api.OK && of == t
}
