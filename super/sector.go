package super

import (
	"thatch/api"
	"thatch/crc"
	"thatch/le"
)

// mark is what a superblock begins with; format is the number behind it.
const (
	mark   = "THATCHSB"
	format = 1
)

// sumBytes is how many bytes the sum takes of a sealed sector.
const sumBytes = 4

// mostShort is the greatest number that two bytes say.
const mostShort = 1<<16 - 1

// block is a superblock, and as numbers what stands in its sector beside its
// own ones.
type block struct {
	api.Super
	format int
	clean  int
}

// blockOf is the block of a superblock.
func blockOf(s api.Super) *block {
	b := &block{Super: s, format: format}
	if s.Clean {
		b.clean = 1
	}
	return b
}

// number is one of a block: how many bytes it has, how little and how much it
// may be, and which one it is: to be put, held against its bounds, or got.
type number struct {
	size  int
	least int
	most  int
	of    func(b *block) *int
}

// numbers are a block's numbers, as they stand one behind the other. What those
// of the geometry may be is geom's to say: here they are what they have room for.
func numbers() [11]number {
	return [...]number{
		{2, format, format, func(b *block) *int { return &b.format }},
		{8, 1, api.MaxGeneration, func(b *block) *int { return &b.Generation }},
		{2, 0, mostShort, func(b *block) *int { return &b.Geom.Conv }},
		{2, 0, mostShort, func(b *block) *int { return &b.Geom.Seq }},
		{2, 0, mostShort, func(b *block) *int { return &b.Geom.Len }},
		{2, 0, mostShort, func(b *block) *int { return &b.Geom.Limit }},
		{2, 0, mostShort, func(b *block) *int { return &b.Geom.Cache }},
		{1, 0, 1, func(b *block) *int { return &b.Slot }},
		{4, 1, api.MaxEpoch, func(b *block) *int { return &b.Epoch }},
		{8, 0, api.MaxRecord, func(b *block) *int { return &b.First }},
		{1, 0, 1, func(b *block) *int { return &b.clean }},
	}
}

// each does something with each of a block's numbers, whichever way that goes.
func (b *block) each(do func(x number, n *int)) {
	for _, x := range numbers() {
		do(x, x.of(b))
	}
}

// Encode is the sector of a superblock.
func Encode(s api.Super) ([]byte, api.Errno) {
	if !May(s) {
		return nil, api.ErrArg
	}
	w := le.New(api.SectorBytes - sumBytes).Bytes([]byte(mark))
	blockOf(s).each(func(x number, n *int) {
		w.Put(x.size, uint64(*n))
	})
	body, e := w.Done()
	if e != api.OK {
		return nil, e
	}
	return crc.Seal(body)
}

// Decode is the superblock of a sector.
func Decode(b []byte) (api.Super, api.Errno) {
	if !crc.Check(b) {
		return api.Super{}, api.ErrSuper
	}
	r := le.Take(b[sumBytes:])
	if string(r.Bytes(len(mark))) != mark {
		return api.Super{}, api.ErrSuper
	}
	var got block
	got.each(func(x number, n *int) {
		*n = r.Int(x.size, x.least, x.most)
	})
	got.Clean = got.clean == 1
	if r.Done() != api.OK || !May(got.Super) {
		return api.Super{}, api.ErrSuper
	}
	return got.Super, api.OK
}
