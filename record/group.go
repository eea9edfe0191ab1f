package record

import (
	"iter"

	"thatch/api"
)

// mostDeltas is how many deltas a group has, at most.
const mostDeltas = 6000

// Needs is how many records a group of n deltas has.
func Needs(n int) int {
	if n < 0 {
		return 0
	}
	needs := n / api.RecordDeltas
	if n%api.RecordDeltas > 0 || n == 0 {
		needs++
	}
	return needs
}

// cut goes over the records of a group, whether they may be or not.
func cut(l []api.Delta, epoch, seq, upto int) iter.Seq[api.Record] {
	return func(yield func(api.Record) bool) {
		for i := range Needs(len(l)) {
			from := i * api.RecordDeltas
			to := min(from+api.RecordDeltas, len(l))
			r := api.Record{Epoch: epoch, Seq: seq + i, Commit: to == len(l), Upto: upto}
			r.Deltas = append(r.Deltas, l[from:to]...)
			if !yield(r) {
				return
			}
		}
	}
}

// Group is a group of deltas as records, with numbers from seq on.
func Group(l []api.Delta, epoch, seq, upto int) ([]api.Record, api.Errno) {
	long := len(l) > mostDeltas
	var group []api.Record
	for r := range cut(l, epoch, seq, upto) {
		if !May(r) {
			return nil, api.ErrArg
		}
		// One that is too long is looked at to its end, but not kept: there is no
		// bound to how long it is.
		if !long {
			group = append(group, r)
		}
	}
	if long {
		return nil, api.ErrLong
	}
	return group, api.OK
}

// Join is all deltas of records that are one group, and tells whether they are.
func Join(l []api.Record) ([]api.Delta, bool) {
	var deltas []api.Delta
	for i, r := range l {
		last := i == len(l)-1
		if r.Commit != last || !last && len(r.Deltas) != api.RecordDeltas {
			return nil, false
		}
		if i > 0 && !follows(l[i-1], r) {
			return nil, false
		}
		deltas = append(deltas, r.Deltas...)
	}
	return deltas, len(l) > 0
}

// follows tells whether a record is the next one behind another, in one group.
func follows(ahead, r api.Record) bool {
	// Behind the greatest int there is none, but a sum that goes round.
	return r.Seq > ahead.Seq && r.Seq-ahead.Seq == 1 && r.Epoch == ahead.Epoch && r.Upto == ahead.Upto
}
