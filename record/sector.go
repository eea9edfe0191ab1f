package record

import (
	"thatch/api"
	"thatch/crc"
	"thatch/le"
)

// mark is what a record's sector begins with, behind the sum.
const mark = "JR"

// sumBytes is how many bytes the sum takes of a sealed sector.
const sumBytes = 4

// Encode is the sector of a record.
func Encode(r api.Record) ([]byte, api.Errno) {
	if !May(r) {
		return nil, api.ErrArg
	}
	commit := uint64(0)
	if r.Commit {
		commit = 1
	}
	w := le.New(api.SectorBytes - sumBytes).Bytes([]byte(mark))
	w.Put(1, commit).Put(1, uint64(len(r.Deltas)))
	w.Put(4, uint64(r.Epoch)).Put(8, uint64(r.Seq)).Put(8, uint64(r.Upto))
	for _, d := range r.Deltas {
		w.Put(1, uint64(d.Kind)).Put(1, uint64(d.Zone)).Put(2, uint64(d.N))
		w.Put(4, uint64(d.At)).Put(4, uint64(d.Off)).Put(4, 0)
	}
	body, e := w.Done()
	if e != api.OK {
		return nil, e
	}
	return crc.Seal(body)
}

// Decode is the record of a sector.
func Decode(b []byte) (api.Record, api.Errno) {
	var body *le.Reader
	var r api.Record
	if !crc.Check(b) {
		goto none
	}
	body = le.Take(b[sumBytes:])
	if string(body.Bytes(len(mark))) != mark {
		goto none
	}
	r = take(body)
	// A record has one sector and one only: nothing stands behind its deltas.
	if body.Done() != api.OK {
		goto none
	}
	if !May(r) {
		goto none
	}
	return r, api.OK
none:
	return api.Record{}, api.ErrCode
}

// take gets the numbers of a record that stand behind the mark, each within the
// bounds that it has whatever the others are.
func take(body *le.Reader) api.Record {
	var r api.Record
	r.Commit = body.Int(1, 0, 1) == 1
	deltas := body.Int(1, 0, api.RecordDeltas)
	r.Epoch = body.Int(4, 1, api.MaxEpoch)
	r.Seq = body.Int(8, 0, api.MaxRecord)
	r.Upto = body.Int(8, 0, api.MaxRecord)
	for range deltas {
		r.Deltas = append(r.Deltas, takeDelta(body))
	}
	return r
}

// takeDelta gets the numbers of one delta.
func takeDelta(body *le.Reader) api.Delta {
	var d api.Delta
	d.Kind = body.Int(1, api.DeltaPut, api.DeltaBad)
	d.Zone = body.Int(1, 0, api.NoZone)
	d.N = body.Int(2, 0, mostN)
	d.At = body.Int(4, 0, mostAt)
	d.Off = body.Int(4, 0, api.MaxZoneLen)
	body.Int(4, 0, 0)
	return d
}
