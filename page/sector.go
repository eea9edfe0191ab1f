package page

import (
	"thatch/api"
	"thatch/crc"
	"thatch/geom"
	"thatch/le"
)

// pageMark is what a page's sector begins with, behind the sum; sumBytes is how
// many bytes that takes.
const (
	pageMark = "PG"
	sumBytes = 4
)

// mostShort is the greatest number that two bytes say.
const mostShort = 1<<16 - 1

// leaf is one page: its number, how many there are, their generation, and its
// part of the stream.
type leaf struct {
	number     int
	pages      int
	generation int
	part       []byte
}

// Encode is the pages of a state.
func Encode(g api.Geom, generation int, s api.State) ([][]byte, api.Errno) {
	if !geom.May(g) {
		return nil, api.ErrGeom
	}
	if !May(g, s) || generation < 1 || generation > api.MaxGeneration {
		return nil, api.ErrArg
	}
	stream, e := streamOf(g, s)
	if e != api.OK {
		return nil, e
	}
	var pages [][]byte
	for i, part := range parts(stream) {
		x := leaf{number: i, pages: Pages(g, len(s.Extents)), generation: generation, part: part}
		sector, e := x.seal()
		if e != api.OK {
			return nil, e
		}
		pages = append(pages, sector)
	}
	return pages, api.OK
}

// seal is the sector of a page.
func (x leaf) seal() ([]byte, api.Errno) {
	w := le.New(api.SectorBytes - sumBytes).Bytes([]byte(pageMark))
	w.Put(2, uint64(x.number)).Put(2, uint64(x.pages)).Put(2, 0).Put(8, uint64(x.generation))
	body, e := w.Bytes(x.part).Done()
	if e != api.OK {
		return nil, e
	}
	return crc.Seal(body)
}

// Decode is the state of which the first of the pages are those of a generation.
func Decode(g api.Geom, generation int, pages [][]byte) (api.State, api.Errno) {
	if !geom.May(g) {
		return api.State{}, api.ErrGeom
	}
	stream, whole := gather(generation, pages)
	if !whole {
		return api.State{}, api.ErrCode
	}
	s, is := stateOf(g, stream)
	if !is {
		return api.State{}, api.ErrCode
	}
	return s, api.OK
}

// gather is what stands in the first of the pages, as many as they say that
// there are, and tells whether all of these are there, of that generation.
func gather(generation int, pages [][]byte) ([]byte, bool) {
	var stream []byte
	many := 0
	for i, sector := range pages {
		x, is := leafOf(sector)
		if i == 0 {
			many = x.pages
		}
		if !is || x.number != i || x.pages != many || x.generation != generation {
			return nil, false
		}
		stream = append(stream, x.part...)
		if i+1 == many {
			return stream, true
		}
	}
	return nil, false
}

// leafOf is the page of a sector, and tells whether it is one.
func leafOf(sector []byte) (leaf, bool) {
	if !crc.Check(sector) {
		return leaf{}, false
	}
	r := le.Take(sector[sumBytes:])
	if string(r.Bytes(len(pageMark))) != pageMark {
		return leaf{}, false
	}
	var x leaf
	x.number = r.Int(2, 0, mostShort)
	x.pages = r.Int(2, 1, mostShort)
	takeNoughts(r, 2)
	x.generation = r.Int(8, 1, api.MaxGeneration)
	x.part = r.Bytes(api.PageBytes)
	return x, r.Done() == api.OK
}
