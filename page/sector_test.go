package page_test

import (
	"bytes"
	"math"
	"slices"
	"testing"

	"thatch/api"
	"thatch/crc"
	"thatch/page"
)

// low is the lowest bytes of a number, the lowest first.
func low(size, n int) []byte {
	var b []byte
	for range size {
		b = append(b, byte(n))
		n >>= 8
	}
	return b
}

// streamParts is what a state's stream has, one behind the other: the mark, four
// numbers, the bytes 0, each home, the bits, and six numbers of each extent.
func streamParts(s api.State) [][]byte {
	l := [][]byte{[]byte("THCP"), low(2, len(s.Homes)), low(2, len(s.Bad)), low(4, len(s.Extents)), low(8, s.Upto), make([]byte, 20)}
	for _, zone := range s.Homes {
		l = append(l, low(2, zone))
	}
	bits := make([]byte, (len(s.Bad)+7)/8)
	for i, bad := range s.Bad {
		if bad {
			bits[i/8] |= 1 << (i % 8)
		}
	}
	l = append(l, bits)
	for _, x := range s.Extents {
		l = append(l, low(4, x.At), low(2, x.N), low(1, x.Zone), low(1, 0), low(4, x.Off), low(4, 0))
	}
	return l
}

// fill is a stream, with 0 behind it up to the end of a page.
func fill(stream []byte) []byte {
	for len(stream)%96 != 0 {
		stream = append(stream, 0)
	}
	return stream
}

// leafParts is what stands in a page's sector behind the sum.
func leafParts(number, pages, generation int, part []byte) [][]byte {
	return [][]byte{[]byte("PG"), low(2, number), low(2, pages), low(2, 0), low(8, generation), part}
}

func sealed(t *testing.T, body []byte) []byte {
	t.Helper()
	sector, e := crc.Seal(body)
	if e != api.OK {
		t.Fatal(e)
	}
	return sector
}

// sheets is the pages of a stream.
func sheets(t *testing.T, generation int, stream []byte) [][]byte {
	t.Helper()
	stream = fill(stream)
	var l [][]byte
	for i := range len(stream) / 96 {
		l = append(l, sealed(t, bytes.Join(leafParts(i, len(stream)/96, generation, stream[96*i:96*i+96]), nil)))
	}
	return l
}

func samePages(a, b [][]byte) bool { return slices.EqualFunc(a, b, bytes.Equal) }

func clonePages(l [][]byte) [][]byte {
	var all [][]byte
	for _, b := range l {
		all = append(all, bytes.Clone(b))
	}
	return all
}

// wantNone wants that pages say no state of the example's geometry.
func wantNone(t *testing.T, what string, generation int, pages [][]byte) {
	t.Helper()
	if s, e := page.Decode(example, generation, pages); e != api.ErrCode || !page.Same(s, api.State{}) {
		t.Errorf("%s: %v %d", what, s, e)
	}
}

// P11.2, P11.3: pages, byte by byte, and what they say.
func TestEncode(t *testing.T) {
	try := func(x api.Geom, generation int, s api.State) {
		p, e := page.Encode(x, generation, s)
		if want := sheets(t, generation, bytes.Join(streamParts(s), nil)); e != api.OK || !samePages(p, want) {
			t.Fatalf("%v: %d pages, not %d: %d", s, len(p), len(want), e)
		}
		if len(p) != page.Pages(x, len(s.Extents)) || len(p) > layout(t, x).Slot {
			t.Errorf("%d pages", len(p))
		}
		if got, e := page.Decode(x, generation, p); e != api.OK || !page.Same(got, s) {
			t.Errorf("%v %d, not %v", got, e, s)
		}
	}
	for _, s := range whole(t) {
		for _, generation := range []int{1, 2, 255, 256, 0x0102030405, 1 << 32, 1 << 40} {
			try(example, generation, s)
		}
	}
	for _, x := range wholeGeoms() {
		s := full(t, x)
		for i := 0; i <= len(s.Extents); i += 1 + i/3 {
			few := s
			few.Extents = s.Extents[:i]
			try(x, 7, few)
		}
		try(x, 7, s)
		empty, _ := page.Empty(x)
		try(x, 1, empty)
	}
	s, _ := page.Empty(wide)
	s.Extents = []api.Extent{put(4095, 1, 17, 1023), nothing(4096, 4096), put(8192, 1024, 2, 0), nothing(14321, 1)}
	try(wide, 9, s)
}

// P11.2: the first page of a state, written out.
func TestEncodeWritten(t *testing.T) {
	p, e := page.Encode(example, 0x0A0B, plain())
	if e != api.OK || len(p) != 2 || len(p[0]) != 128 || len(p[1]) != 128 || !crc.Check(p[0]) || !crc.Check(p[1]) {
		t.Fatal(p, e)
	}
	want := "PG\x00\x00\x02\x00\x00\x00\x0b\x0a\x00\x00\x00\x00\x00\x00" +
		"THCP\x05\x00\x08\x00\x05\x00\x00\x00\x4d\x00\x00\x00\x00\x00\x00\x00" + "\x00\x00\x00\x00\x00\x00\x00\x00\x00\x00\x00\x00\x00\x00\x00\x00\x00\x00\x00\x00" +
		"\xff\x00\x09\x00\x02\x00\xff\x00\x02\x00" + "\xc2" +
		"\x00\x00\x00\x00\x03\x00\x04\x00\x01\x00\x00\x00\x00\x00\x00\x00" +
		"\x03\x00\x00\x00\x02\x00\xff\x00\x00\x00\x00\x00\x00\x00\x00\x00" +
		"\x05\x00\x00\x00\x10\x00\x09\x00\x00\x00\x00\x00\x00" + "\x00\x00\x00\x00\x00\x00\x00\x00\x00\x00\x00\x00"
	if string(p[0][4:]) != want {
		t.Errorf("%q", p[0][4:])
	}
	want = "PG\x01\x00\x02\x00\x00\x00\x0b\x0a\x00\x00\x00\x00\x00\x00" + "\x00\x00\x00" +
		"\x1e\x00\x00\x00\x01\x00\x04\x00\x01\x00\x00\x00\x00\x00\x00\x00" +
		"\x1f\x00\x00\x00\x2c\x00\xff\x00\x00\x00\x00\x00\x00\x00\x00\x00"
	if string(p[1][4:4+len(want)]) != want || bytes.Count(p[1][4+len(want):], []byte{0}) != 124-len(want) {
		t.Errorf("%q", p[1][4:])
	}
}

// P11.2: what is refused, the geometry first.
func TestEncodeRefused(t *testing.T) {
	want := func(x api.Geom, generation int, s api.State, code api.Errno) {
		t.Helper()
		if p, e := page.Encode(x, generation, s); e != code || len(p) != 0 {
			t.Errorf("%v, generation %d: %d pages, %d, not %d", x, generation, len(p), e, code)
		}
	}
	for _, x := range brokenGeoms() {
		want(x, 1, plain(), api.ErrGeom)
		want(x, 0, api.State{}, api.ErrGeom)
	}
	for _, s := range broken(t) {
		want(example, 1, s, api.ErrArg)
		want(example, 0, s, api.ErrArg)
	}
	for _, generation := range []int{math.MinInt, -1, 0, 1<<40 + 1, math.MaxInt} {
		want(example, generation, plain(), api.ErrArg)
	}
	want(wide, 1, plain(), api.ErrArg)
}

// P11.2: what stands behind the pages does not matter, what is missing does.
func TestDecodeFirst(t *testing.T) {
	for _, s := range whole(t) {
		p, _ := page.Encode(example, 12, s)
		newer, _ := page.Encode(example, 13, plain())
		for _, more := range [][][]byte{{nil}, {{}}, {make([]byte, 128)}, p, newer, {nil, p[0]}, slices.Repeat([][]byte{p[0][:5]}, 70000)} {
			if got, e := page.Decode(example, 12, slices.Concat(p, more)); e != api.OK || !page.Same(got, s) {
				t.Errorf("%d more: %v %d", len(more), got, e)
			}
		}
		for n := range p {
			wantNone(t, "a page too few", 12, p[:n])
			wantNone(t, "a page is none", 12, slices.Concat(p[:n], [][]byte{nil}, p[n+1:]))
			wantNone(t, "a page of another generation", 12, slices.Concat(p[:n], newer[:1], p[n+1:]))
			wantNone(t, "begun too late", 12, append([][]byte{nil}, p...))
			if n > 0 {
				wantNone(t, "a page is missing", 12, slices.Concat(p[:n-1], p[n:]))
				wantNone(t, "a page stands there twice", 12, slices.Concat(p[:n], p[n-1:]))
				swapped := slices.Clone(p)
				swapped[n-1], swapped[n] = p[n], p[n-1]
				wantNone(t, "pages in another order", 12, swapped)
			}
		}
		for _, generation := range []int{math.MinInt, -12, -1, 0, 1, 11, 13, 12 + 1<<32, 1 << 40, 1<<40 + 12, math.MaxInt} {
			wantNone(t, "another generation", generation, p)
		}
	}
	wantNone(t, "no pages", 1, nil)
	wantNone(t, "no pages", 1, [][]byte{})
}

// P11.2: the geometry is asked ahead of the pages, and is the pages' own.
func TestDecodeGeom(t *testing.T) {
	p, _ := page.Encode(example, 12, plain())
	for _, x := range brokenGeoms() {
		for _, pages := range [][][]byte{p, nil, {nil}} {
			if s, e := page.Decode(x, 12, pages); e != api.ErrGeom || !page.Same(s, api.State{}) {
				t.Errorf("%v: %v %d", x, s, e)
			}
		}
	}
	for _, x := range wholeGeoms()[1:] {
		if s, e := page.Decode(x, 12, p); e != api.ErrCode || !page.Same(s, api.State{}) {
			t.Errorf("%v: %v %d", x, s, e)
		}
	}
	// As many bands and zones, but not these.
	if _, e := page.Decode(g(3, 8, 16, 3, 2), 12, p); e != api.ErrCode {
		t.Error("a home is conventional")
	}
	if _, e := page.Decode(g(2, 8, 15, 3, 2), 12, p); e != api.ErrCode {
		t.Error("an extent is longer than a zone")
	}
	if s, e := page.Decode(g(2, 8, 20, 3, 2), 12, p); e != api.OK || !page.Same(s, plain()) {
		t.Error("a geometry of which the state may be too", s, e)
	}
}

// P11.2: a bit of a page is another one; bytes are too few, or too many.
func TestDecodeSpoiled(t *testing.T) {
	p, _ := page.Encode(example, 12, plain())
	for i := range p {
		for bit := range 8 * api.SectorBytes {
			x := clonePages(p)
			x[i][bit/8] ^= 1 << (bit % 8)
			wantNone(t, "a bit is another one", 12, x)
		}
		for _, b := range [][]byte{nil, {}, p[i][:127], p[i][4:], append(bytes.Clone(p[i]), 0), make([]byte, 128), bytes.Repeat([]byte{255}, 128)} {
			x := clonePages(p)
			x[i] = b
			wantNone(t, "what is no sector of a page", 12, x)
		}
	}
}

// P11.2: whole sectors in which a page's own numbers are others.
func TestDecodeLeaf(t *testing.T) {
	stream := fill(bytes.Join(streamParts(plain()), nil))
	for i := range 2 {
		wrong := map[int][][]byte{
			0: {[]byte("GP"), []byte("pg"), []byte("PH"), {0, 0}},
			1: {low(2, 1-i), low(2, 2), low(2, 256+i), low(2, -1)},
			2: {low(2, 0), low(2, 1), low(2, 3), low(2, 258), low(2, -1)},
			3: {low(2, 1), low(2, 256), low(2, -1)},
			4: {low(8, 0), low(8, 11), low(8, 13), low(8, 12+1<<40), low(8, 12+1<<56), low(8, -1), low(8, math.MinInt)},
		}
		for place, l := range wrong {
			for _, b := range l {
				p := sheets(t, 12, stream)
				x := leafParts(i, 2, 12, stream[96*i:96*i+96])
				x[place] = b
				p[i] = sealed(t, bytes.Join(x, nil))
				wantNone(t, "a number of a page is another one", 12, p)
			}
		}
		for behind := range 12 {
			p := sheets(t, 12, stream)
			x := append(bytes.Join(leafParts(i, 2, 12, stream[96*i:96*i+96]), nil), make([]byte, 12)...)
			x[112+behind] = 1
			p[i] = sealed(t, x)
			wantNone(t, "something behind a page's part", 12, p)
		}
	}
	// All pages at once say as many as they are not.
	for _, many := range []int{0, 1, 3, 65535} {
		var p [][]byte
		for i := range 2 {
			p = append(p, sealed(t, bytes.Join(leafParts(i, many, 12, stream[96*i:96*i+96]), nil)))
		}
		wantNone(t, "as many pages as they are not", 12, p)
		wantNone(t, "as many pages as they are not", 12, append(p, p...))
	}
	// Of no generation there are any.
	for _, generation := range []int{0, -1, 1<<40 + 1, math.MaxInt, math.MinInt} {
		wantNone(t, "a generation that may not be", generation, sheets(t, generation, stream))
	}
}

// P11.2: whole pages of a stream in which one number is one that may not be.
func TestDecodeStream(t *testing.T) {
	s := plain()
	wrong := map[int][][]byte{
		0: {[]byte("PCHT"), []byte("thcp"), []byte("THCQ"), make([]byte, 4)},
		1: {low(2, 0), low(2, 4), low(2, 6), low(2, 5+256)},
		2: {low(2, 0), low(2, 7), low(2, 9), low(2, 8+256)},
		3: {low(4, 0), low(4, 4), low(4, 6), low(4, 38), low(4, 39), low(4, 5+1<<24), low(4, -1)},
		4: {low(8, 1<<40+1), low(8, -1), low(8, math.MinInt), low(8, math.MaxInt)},
	}
	for i := range 20 {
		b := make([]byte, 20)
		b[i] = 1
		wrong[5] = append(wrong[5], b)
	}
	for i := range 5 {
		wrong[6+i] = [][]byte{low(2, 0), low(2, 1), low(2, 10), low(2, 254), low(2, 256), low(2, 258), low(2, -1)}
	}
	for i, x := range s.Extents {
		at := 12 + 6*i
		wrong[at] = [][]byte{low(4, 75), low(4, x.At+1<<24), low(4, -1)}
		wrong[at+1] = [][]byte{low(2, 0), low(2, 76), low(2, x.N+256), low(2, -1)}
		wrong[at+2] = [][]byte{low(1, 0), low(1, 1), low(1, 10), low(1, 254)}
		wrong[at+3] = [][]byte{low(1, 1), low(1, 255)}
		wrong[at+4] = [][]byte{low(4, 17), low(4, x.Off+256), low(4, x.Off+1<<24), low(4, -1)}
		wrong[at+5] = [][]byte{low(4, 1), low(4, 1<<24), low(4, -1)}
	}
	for place, l := range wrong {
		for _, b := range l {
			p := streamParts(s)
			p[place] = b
			wantNone(t, "a number that may not be", 12, sheets(t, 12, bytes.Join(p, nil)))
		}
	}
	for _, s := range broken(t) {
		wantNone(t, "a state that may not be", 12, sheets(t, 12, bytes.Join(streamParts(s), nil)))
	}
}

// P11.2: what stands behind a state in its last page, pages of nothing, bits of
// zones that there are not.
func TestDecodeBehind(t *testing.T) {
	for _, s := range whole(t) {
		stream := bytes.Join(streamParts(s), nil)
		long := fill(bytes.Clone(stream))
		for i := len(stream); i < len(long); i++ {
			x := bytes.Clone(long)
			x[i] = 1
			wantNone(t, "something behind the last extent", 12, sheets(t, 12, x))
		}
		wantNone(t, "a page of nothing", 12, sheets(t, 12, append(bytes.Clone(long), make([]byte, 96)...)))
		wantNone(t, "seven pages of nothing", 12, sheets(t, 12, append(bytes.Clone(long), make([]byte, 7*96)...)))
		wantNone(t, "too early", 12, sheets(t, 12, stream[1:]))
		wantNone(t, "too late", 12, sheets(t, 12, append([]byte{0}, stream...)))
		wantNone(t, "cut off", 12, sheets(t, 12, stream[:len(stream)/2]))
	}
	odd := g(2, 7, 13, 4, 3)
	s, _ := page.Empty(odd)
	s.Bad[6] = true
	p := streamParts(s)
	if got, e := page.Decode(odd, 1, sheets(t, 1, bytes.Join(p, nil))); e != api.OK || !page.Same(got, s) {
		t.Fatal(got, e)
	}
	p[6+len(s.Homes)][0] |= 1 << 7
	if got, e := page.Decode(odd, 1, sheets(t, 1, bytes.Join(p, nil))); e != api.ErrCode {
		t.Error("a zone that there is not is bad", got, e)
	}
}

// P11.2: very many pages, each of which says that there are so many.
func TestDecodeLong(t *testing.T) {
	stream := bytes.Join(streamParts(plain()), nil)
	var p [][]byte
	for i := range 65535 {
		part := make([]byte, 96)
		if 96*i < len(stream) {
			copy(part, stream[96*i:])
		}
		p = append(p, sealed(t, bytes.Join(leafParts(i, 65535, 12, part), nil)))
	}
	wantNone(t, "very many pages", 12, p)
	wantNone(t, "very many pages, and more", 12, append(p, p...))
}

// R3: what is handed in is not changed, nor the room behind it, and answers are
// new memory that they do not share with one another.
func TestNothingShared(t *testing.T) {
	room := plain()
	room.Homes = append(room.Homes, 1, 2, 3)
	room.Bad = append(room.Bad, true, true)
	room.Extents = append(room.Extents, put(1, 2, 3, 4), put(5, 6, 7, 8))
	was := api.State{Upto: room.Upto, Homes: slices.Clone(room.Homes), Bad: slices.Clone(room.Bad), Extents: slices.Clone(room.Extents)}
	s := api.State{Upto: 77, Homes: room.Homes[:5], Bad: room.Bad[:8], Extents: room.Extents[:5]}
	p, e := page.Encode(example, 12, s)
	again, _ := page.Encode(example, 12, s)
	page.May(example, s)
	if e != api.OK || !page.Same(room, was) {
		t.Error("Encode changed what it was given", e)
	}
	for i := range p {
		b := p[i][:cap(p[i])]
		for k := range b {
			b[k] = 255
		}
		if !samePages(p[i+1:], again[i+1:]) || !samePages(again, sheets(t, 12, bytes.Join(streamParts(s), nil))) || !page.Same(room, was) {
			t.Error("pages share")
		}
	}
	behind := append(slices.Clone(again), []byte{1}, []byte{2})
	got, _ := page.Decode(example, 12, behind[:2])
	other, _ := page.Decode(example, 12, behind[:2])
	if len(behind[2]) != 1 || len(behind[3]) != 1 {
		t.Error("Decode changed the room behind a list")
	}
	wipe(got)
	if !samePages(behind[:2], sheets(t, 12, bytes.Join(streamParts(s), nil))) || !page.Same(other, plain()) {
		t.Error("a state shares with its pages, or with another one")
	}
	for i := range again {
		clear(again[i])
	}
	if !page.Same(other, plain()) {
		t.Error("a state is of its pages' memory")
	}
	one, _ := page.Empty(example)
	two, _ := page.Empty(example)
	wipe(one)
	if fresh, _ := page.Empty(example); !page.Same(two, fresh) || page.Same(one, two) {
		t.Error("empty states share")
	}
}

// wipe changes a state's lists, and the room behind their ends.
func wipe(s api.State) {
	for i := range s.Homes[:cap(s.Homes)] {
		s.Homes[:cap(s.Homes)][i] = -1
	}
	for i := range s.Bad[:cap(s.Bad)] {
		s.Bad[:cap(s.Bad)][i] = true
	}
	for i := range s.Extents[:cap(s.Extents)] {
		s.Extents[:cap(s.Extents)][i] = put(-1, -1, -1, -1)
	}
}
