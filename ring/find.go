package ring

import (
	"thatch/api"
	"thatch/geom"
	"thatch/record"
	"thatch/zdisk"
)

// Find is what is found in a disk's ring, of an epoch, from record first on:
// the deltas of each group, the Upto of the last one, and the number behind its
// last record.
func Find(d *zdisk.Disk, g api.Geom, epoch, first int) ([][]api.Delta, int, int, api.Errno) {
	long, fault := roomOf(d, g, epoch, first)
	if fault != api.OK {
		return nil, 0, 0, fault
	}
	var groups [][]api.Delta
	var part []api.Record // what stands behind the last group
	upto, next := -1, first
	for n := first; n < first+long; n++ {
		b, e := d.Read(geom.RingAt(g, n), 1)
		if e != api.OK {
			// Whatever refused it: what stands there can not be told.
			fault = api.ErrMedia
			goto end
		}
		r, e := record.Decode(b)
		if e != api.OK || r.Epoch != epoch || r.Seq != n {
			goto end
		}
		part = append(part, r)
		if !r.Commit {
			continue
		}
		deltas, joined := record.Join(part)
		if !joined {
			goto end
		}
		groups = append(groups, deltas)
		upto, next, part = r.Upto, n+1, nil
	}
end:
	return groups, upto, next, fault
}
