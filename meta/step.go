package meta

import (
	"iter"
	"slices"

	"thatch/api"
	"thatch/geom"
	"thatch/page"
	"thatch/super"
	"thatch/zdisk"
)

// step is a part of what is written: what refuses it, if something does.
type step func() api.Errno

// inTurn does steps, one behind the other, until one is refused.
func inTurn(steps ...step) api.Errno {
	for _, do := range steps {
		if e := do(); e != api.OK {
			return e
		}
	}
	return api.OK
}

// write is the step that writes sectors one by one, from one of the disk on.
func write(d *zdisk.Disk, from int, sectors ...[]byte) step {
	return func() api.Errno {
		for i, sector := range sectors {
			if e := d.Write(from+i, sector); e != api.OK {
				return e
			}
		}
		return api.OK
	}
}

// blank is the step that writes n sectors of bytes 0.
func blank(d *zdisk.Disk, from, n int) step {
	sector := make([]byte, api.SectorBytes)
	return write(d, from, slices.Repeat([][]byte{sector}, n)...)
}

// read goes over what stands in sectors, one by one, and what refuses it.
func read(d *zdisk.Disk, s api.Span) iter.Seq2[[]byte, api.Errno] {
	return func(yield func([]byte, api.Errno) bool) {
		for i := range s.N {
			if !yield(d.Read(s.At+i, 1)) {
				return
			}
		}
	}
}

// readAll is what stands in sectors, all of which have to be read.
func readAll(d *zdisk.Disk, s api.Span) ([][]byte, api.Errno) {
	var l [][]byte
	for sector, e := range read(d, s) {
		if e != api.OK {
			// Whatever refused it: what stands there can not be told.
			return nil, api.ErrMedia
		}
		l = append(l, sector)
	}
	return l, api.OK
}

// checkpoint is the steps behind which a superblock holds, and a state is that
// of its slot: the superblock is not begun until the pages are sure, so that the
// one ahead of it holds till then.
func checkpoint(d *zdisk.Disk, b api.Super, s api.State) ([]step, api.Errno) {
	pages, e := page.Encode(b.Geom, b.Generation, s)
	if e != api.OK {
		return nil, e
	}
	sector, e := super.Encode(b)
	if e != api.OK {
		return nil, e
	}
	return []step{
		write(d, geom.Slot(b.Geom, b.Slot).At, pages...),
		d.Flush,
		write(d, super.Copy(b), sector),
		d.Flush,
	}, api.OK
}
