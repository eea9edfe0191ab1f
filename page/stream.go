package page

import (
	"iter"

	"thatch/api"
	"thatch/geom"
	"thatch/le"
)

// streamMark is what a stream begins with; spareBytes is how many bytes 0 stand
// between the numbers of its head and the homes.
const (
	streamMark = "THCP"
	spareBytes = 20
)

// streamOf is the stream of a state that may be, with 0 behind it, so that it
// fills its pages.
func streamOf(g api.Geom, s api.State) ([]byte, api.Errno) {
	w := le.New(Pages(g, len(s.Extents)) * api.PageBytes).Bytes([]byte(streamMark))
	w.Put(2, uint64(len(s.Homes))).Put(2, uint64(len(s.Bad)))
	w.Put(4, uint64(len(s.Extents))).Put(8, uint64(s.Upto)).Bytes(make([]byte, spareBytes))
	for _, zone := range s.Homes {
		w.Put(api.HomeBytes, uint64(zone))
	}
	bits := le.NewBits(len(s.Bad))
	for i, bad := range s.Bad {
		bits.Set(i, bad)
	}
	w.Bytes(bits.Pack())
	for _, x := range s.Extents {
		w.Put(4, uint64(x.At)).Put(2, uint64(x.N)).Put(1, uint64(x.Zone)).Put(1, 0)
		w.Put(4, uint64(x.Off)).Put(4, 0)
	}
	return w.Done()
}

// parts goes over the parts of a stream that fills its pages: the number of
// each, and what stands in it.
func parts(stream []byte) iter.Seq2[int, []byte] {
	return func(yield func(int, []byte) bool) {
		for i := range len(stream) / api.PageBytes {
			from := i * api.PageBytes
			if !yield(i, stream[from:from+api.PageBytes]) {
				return
			}
		}
	}
}

// stateOf is the state of which a stream fills so many pages, and tells whether
// it is one.
func stateOf(g api.Geom, stream []byte) (api.State, bool) {
	l, e := geom.Layout(g)
	r := le.Take(stream)
	if e != api.OK || string(r.Bytes(len(streamMark))) != streamMark {
		return api.State{}, false
	}
	r.Int(2, l.Bands, l.Bands)
	r.Int(2, g.Seq, g.Seq)
	extents := r.Int(4, 0, l.Extents)
	s := api.State{Upto: r.Int(8, 0, api.MaxRecord)}
	takeNoughts(r, spareBytes)
	for range l.Bands {
		s.Homes = append(s.Homes, r.Int(api.HomeBytes, 0, api.NoZone))
	}
	bits, e := le.Unpack(g.Seq, r.Bytes(bitBytes(g.Seq)))
	if e != api.OK {
		return api.State{}, false
	}
	for i := range g.Seq {
		s.Bad = append(s.Bad, bits.Has(i))
	}
	for range extents {
		s.Extents = append(s.Extents, takeExtent(r))
	}
	// A state has its own pages alone: not one more, with nothing in it.
	if r.Done() != api.OK || len(stream) != Pages(g, extents)*api.PageBytes || !May(g, s) {
		return api.State{}, false
	}
	return s, true
}

// takeNoughts gets n bytes, each of which has to be 0.
func takeNoughts(r *le.Reader, n int) {
	for range n {
		r.Int(1, 0, 0)
	}
}

// takeExtent gets the numbers of one extent. What they may be is MayExtent's to
// say: here they are what they have room for.
func takeExtent(r *le.Reader) api.Extent {
	var x api.Extent
	x.At = int(r.Get(4))
	x.N = int(r.Get(2))
	x.Zone = int(r.Get(1))
	takeNoughts(r, 1)
	x.Off = int(r.Get(4))
	takeNoughts(r, 4)
	return x
}
