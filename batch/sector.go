package batch

import (
	"bytes"
	"iter"
	"slices"

	"thatch/api"
	"thatch/crc"
	"thatch/geom"
	"thatch/le"
)

// headMark is what a head begins with, behind the sum of its sector; sumBytes is
// how many bytes a sum takes.
const (
	headMark = "BT"
	sumBytes = 4
)

// Encode is the sectors of a batch.
func Encode(g api.Geom, b api.Batch, data []byte) ([]byte, api.Errno) {
	if !geom.May(g) {
		return nil, api.ErrGeom
	}
	if !May(g, b) || len(data) != dataSectors(b)*api.SectorBytes {
		return nil, api.ErrArg
	}
	head, e := seal(b, crc.Sum(data))
	if e != api.OK {
		return nil, e
	}
	return slices.Concat(head, data), api.OK
}

// seal is the head of a batch whose data have that sum.
func seal(b api.Batch, sum uint32) ([]byte, api.Errno) {
	w := le.New(api.SectorBytes - sumBytes).Bytes([]byte(headMark))
	w.Put(1, uint64(b.Kind)).Put(1, uint64(len(b.Spans))).Put(8, uint64(b.Seq)).Put(4, uint64(sum))
	for _, s := range b.Spans {
		w.Put(4, uint64(s.At)).Put(2, uint64(s.N)).Put(2, 0)
	}
	body, e := w.Done()
	if e != api.OK {
		return nil, e
	}
	return crc.Seal(body)
}

// Head is the batch of which a sector is the head, and the sum of its data.
func Head(g api.Geom, sector []byte) (api.Batch, uint32, api.Errno) {
	if !geom.May(g) {
		return api.Batch{}, 0, api.ErrGeom
	}
	b, sum, is := headOf(sector)
	if !is || !May(g, b) {
		return api.Batch{}, 0, api.ErrCode
	}
	return b, sum, api.OK
}

// headOf is what a head says, and tells whether the sector is one. What the
// batch may be is May's to say: here its numbers are what they have room for.
func headOf(sector []byte) (api.Batch, uint32, bool) {
	if !crc.Check(sector) {
		return api.Batch{}, 0, false
	}
	r := le.Take(sector[sumBytes:])
	if string(r.Bytes(len(headMark))) != headMark {
		return api.Batch{}, 0, false
	}
	var b api.Batch
	b.Kind = int(r.Get(1))
	spans := r.Int(1, 1, api.BatchSpans)
	b.Seq = int(r.Get(8))
	sum := uint32(r.Get(4))
	for range spans {
		s := api.Span{At: int(r.Get(4)), N: int(r.Get(2))}
		r.Int(2, 0, 0)
		b.Spans = append(b.Spans, s)
	}
	if r.Done() != api.OK || b.Kind == api.BatchHole && sum != 0 {
		return api.Batch{}, 0, false
	}
	return b, sum, true
}

// Decode is the batch with which sectors begin, and its data.
func Decode(g api.Geom, sectors []byte) (api.Batch, []byte, api.Errno) {
	if !geom.May(g) {
		return api.Batch{}, nil, api.ErrGeom
	}
	b, data, is := begin(g, sectors)
	if !is {
		return api.Batch{}, nil, api.ErrCode
	}
	return b, bytes.Clone(data), api.OK
}

// begin is the batch with which sectors begin, and where in them its data are,
// and tells whether there is one that is whole.
func begin(g api.Geom, sectors []byte) (api.Batch, []byte, bool) {
	if len(sectors) == 0 || len(sectors)%api.SectorBytes != 0 {
		return api.Batch{}, nil, false
	}
	b, sum, e := Head(g, sectors[:api.SectorBytes])
	if e != api.OK || len(sectors) < Sectors(b)*api.SectorBytes {
		return api.Batch{}, nil, false
	}
	data := sectors[api.SectorBytes : Sectors(b)*api.SectorBytes]
	if crc.Sum(data) != sum {
		return api.Batch{}, nil, false
	}
	return b, data, true
}

// Scan goes over the batches with which sectors begin, one behind the other: the
// sector at which each one's head stands, and the batch.
func Scan(g api.Geom, sectors []byte) iter.Seq2[int, api.Batch] {
	// A copy, as the sectors may be others when it is ranged over.
	kept := bytes.Clone(sectors)
	return func(yield func(int, api.Batch) bool) {
		at := 0
		for {
			b, _, is := begin(g, kept[at*api.SectorBytes:])
			if !is {
				return
			}
			// Counted ahead: the batch belongs to whoever ranges over it.
			behind := at + Sectors(b)
			if !yield(at, b) {
				return
			}
			at = behind
		}
	}
}
