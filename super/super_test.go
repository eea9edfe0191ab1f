package super_test

import (
	"bytes"
	"math"
	"testing"

	"thatch/api"
	"thatch/crc"
	"thatch/super"
)

var plainGeom = api.Geom{Conv: 2, Seq: 6, Len: 16, Limit: 2, Cache: 3}

// plain is a superblock like any other.
var plain = api.Super{Generation: 6, Geom: plainGeom, Slot: 1, Epoch: 4, First: 300, Clean: true}

// with is plain, with something else.
func with(change func(s *api.Super)) api.Super {
	s := plain
	change(&s)
	return s
}

// whole are superblocks that may be, at the edges too.
func whole() []api.Super {
	l := []api.Super{plain}
	for _, geometry := range []api.Geom{plainGeom, {Conv: 16, Seq: 128, Len: 1024, Limit: 128, Cache: 126}, {Conv: 2, Seq: 4, Len: 8, Limit: 2, Cache: 1}} {
		for _, generation := range []int{1, 2, 7, 255, 1 << 32, 1<<40 - 1, 1 << 40} {
			for _, epoch := range []int{1, 2, 0x01020304, 1<<31 - 1, 1 << 31} {
				for _, first := range []int{0, 1, 0x0102030405, 1<<40 - 1, 1 << 40} {
					for slot := range 2 {
						l = append(l, api.Super{Generation: generation, Geom: geometry, Slot: slot, Epoch: epoch, First: first, Clean: (generation+slot)%2 == 0})
					}
				}
			}
		}
	}
	return l
}

// broken are superblocks that may not be: each by one thing alone.
func broken() []api.Super {
	l := []api.Super{{}, {Generation: 1}}
	for _, n := range []int{math.MinInt, -1, 0, 1<<40 + 1, math.MaxInt} {
		l = append(l, with(func(s *api.Super) { s.Generation = n }))
	}
	for _, n := range []int{math.MinInt, -1, 2, 3, 256, math.MaxInt} {
		l = append(l, with(func(s *api.Super) { s.Slot = n }))
	}
	for _, n := range []int{math.MinInt, -1, 0, 1<<31 + 1, 1<<32 + 1, math.MaxInt} {
		l = append(l, with(func(s *api.Super) { s.Epoch = n }))
	}
	for _, n := range []int{math.MinInt, -1, 1<<40 + 1, math.MaxInt} {
		l = append(l, with(func(s *api.Super) { s.First = n }))
	}
	for _, n := range []int{math.MinInt, -1, 0, 1, 1<<16 + 2, math.MaxInt} {
		l = append(l, with(func(s *api.Super) { s.Geom.Conv = n }), with(func(s *api.Super) { s.Geom.Limit = n }))
	}
	for _, n := range []int{math.MinInt, -1, 0, 3, 1<<16 + 6, math.MaxInt} {
		l = append(l, with(func(s *api.Super) { s.Geom.Seq = n }))
	}
	for _, n := range []int{math.MinInt, -1, 0, 7, 1025, 1<<16 + 16, math.MaxInt} {
		l = append(l, with(func(s *api.Super) { s.Geom.Len = n }))
	}
	for _, n := range []int{math.MinInt, -1, 0, 5, 6, 1<<16 + 3, math.MaxInt} {
		l = append(l, with(func(s *api.Super) { s.Geom.Cache = n }))
	}
	return l
}

// low is the lowest bytes of a number, the lowest one first.
func low(size, n int) []byte {
	var b []byte
	for range size {
		b = append(b, byte(n))
		n >>= 8
	}
	return b
}

// parts are the bytes of a superblock's numbers, one by one.
func parts(s api.Super) [][]byte {
	clean := 0
	if s.Clean {
		clean = 1
	}
	return [][]byte{
		[]byte("THATCHSB"), low(2, 1), low(8, s.Generation),
		low(2, s.Geom.Conv), low(2, s.Geom.Seq), low(2, s.Geom.Len), low(2, s.Geom.Limit), low(2, s.Geom.Cache),
		low(1, s.Slot), low(4, s.Epoch), low(8, s.First), low(1, clean),
	}
}

// sealed is the sealed sector of some bytes.
func sealed(t *testing.T, b []byte) []byte {
	t.Helper()
	sector, e := crc.Seal(b)
	if e != api.OK {
		t.Fatal(e)
	}
	return sector
}

// sector is the sector of a superblock, whether it may be or not.
func sector(t *testing.T, s api.Super) []byte {
	t.Helper()
	return sealed(t, bytes.Join(parts(s), nil))
}

// wantNone wants that a sector is no superblock's.
func wantNone(t *testing.T, what string, b []byte) {
	t.Helper()
	if s, e := super.Decode(b); e != api.ErrSuper || s != (api.Super{}) {
		t.Errorf("%s: %v %d", what, s, e)
	}
}

// P8.1: which superblocks may be, and their copies.
func TestMayCopy(t *testing.T) {
	for _, s := range whole() {
		if !super.May(s) {
			t.Errorf("%v may not be", s)
		}
		want := 0
		if s.Generation&1 == 1 {
			want = 1
		}
		if got := super.Copy(s); got != want {
			t.Errorf("%v: copy %d", s, got)
		}
	}
	for _, s := range broken() {
		if super.May(s) || super.Copy(s) != -1 {
			t.Errorf("%v may be, or has copy %d", s, super.Copy(s))
		}
	}
	if got := super.Copy(with(func(s *api.Super) { s.Generation = 7 })); got != 1 {
		t.Errorf("the example: copy %d", got)
	}
}

// P8.1, P8.3: what stands in a superblock's sector, and what is found there.
func TestEncodeDecode(t *testing.T) {
	for _, s := range whole() {
		b, e := super.Encode(s)
		if e != api.OK || !bytes.Equal(b, sector(t, s)) {
			t.Errorf("%v: %x %d", s, b, e)
		}
		if got, e := super.Decode(b); e != api.OK || got != s {
			t.Errorf("%v: decoded %v %d", s, got, e)
		}
	}
	for _, s := range broken() {
		if b, e := super.Encode(s); e != api.ErrArg || len(b) != 0 {
			t.Errorf("%v: %x %d", s, b, e)
		}
	}
}

// P8.1: a sector that was written out by hand.
func TestEncodeByHand(t *testing.T) {
	want := "THATCHSB\x01\x00\x06\x00\x00\x00\x00\x00\x00\x00\x02\x00\x06\x00\x10\x00\x02\x00\x03\x00\x01\x04\x00\x00\x00\x2C\x01\x00\x00\x00\x00\x00\x00\x01"
	b, e := super.Encode(plain)
	if e != api.OK || len(b) != api.SectorBytes || !crc.Check(b) {
		t.Fatalf("%x %d", b, e)
	}
	if string(b[4:4+len(want)]) != want || bytes.Count(b[4+len(want):], []byte{0}) != 124-len(want) {
		t.Errorf("%x", b)
	}
}

// P8.1: whole sectors of superblocks that may not be.
func TestDecodeBroken(t *testing.T) {
	// One number after the other, out of its bounds, but within its room.
	for place, wrong := range map[int][][]byte{
		0:  {[]byte("THATCHSC"), []byte("thatchsb"), make([]byte, 8), []byte("BSHCTAHT")},
		1:  {low(2, 0), low(2, 2), low(2, 256), low(2, 257), low(2, 0xFFFF)},
		2:  {low(8, 0), low(8, 1<<40+1), low(8, -1), low(8, math.MinInt), low(8, math.MaxInt)},
		3:  {low(2, 0), low(2, 1), low(2, 17), low(2, 0xFFFF)},
		4:  {low(2, 0), low(2, 3), low(2, 4), low(2, 129), low(2, 0xFFFF)},
		5:  {low(2, 0), low(2, 7), low(2, 1025), low(2, 0xFFFF)},
		6:  {low(2, 0), low(2, 1), low(2, 7), low(2, 0xFFFF)},
		7:  {low(2, 0), low(2, 5), low(2, 0xFFFF)},
		8:  {low(1, 2), low(1, 255)},
		9:  {low(4, 0), low(4, 1<<31+1), low(4, -1)},
		10: {low(8, 1<<40+1), low(8, -1), low(8, math.MinInt)},
		11: {low(1, 2), low(1, 255)},
	} {
		for _, b := range wrong {
			p := parts(plain)
			p[place] = b
			wantNone(t, "a number that may not be", sealed(t, bytes.Join(p, nil)))
		}
	}
}

// P8.1: sectors that are not whole, or have more, or less, in them.
func TestDecodeNone(t *testing.T) {
	b := sector(t, plain)
	for _, none := range [][]byte{nil, {}, make([]byte, api.SectorBytes), b[:127], b[4:], append(bytes.Clone(b), 0), bytes.Repeat([]byte{255}, 128)} {
		wantNone(t, "what is no sector of one", none)
	}
	for bit := range 8 * api.SectorBytes {
		x := bytes.Clone(b)
		x[bit/8] ^= 1 << (bit % 8)
		wantNone(t, "a bit is another one", x)
	}
	body := bytes.Join(parts(plain), nil)
	for i := len(body); i < 124; i++ {
		x := append(bytes.Clone(body), make([]byte, 124-len(body))...)
		x[i] = 1
		wantNone(t, "something behind the numbers", sealed(t, x))
	}
	// 29 bytes are ahead of the epoch, which is never 0.
	for n := range 30 {
		wantNone(t, "too few numbers", sealed(t, body[:n]))
	}
	wantNone(t, "too early", sealed(t, body[1:]))
	wantNone(t, "too late", sealed(t, append([]byte{0}, body...)))
}

// wantPick wants a superblock of two sectors.
func wantPick(t *testing.T, what string, a, b []byte, want api.Super) {
	t.Helper()
	code := api.OK
	if want == (api.Super{}) {
		code = api.ErrSuper
	}
	if got, e := super.Pick(a, b); got != want || e != code {
		t.Errorf("%s: %v %d, not %v", what, got, e, want)
	}
}

// P8.2: the right one of two sectors.
func TestPick(t *testing.T) {
	of := func(generation int) api.Super {
		return with(func(s *api.Super) { s.Generation, s.First, s.Slot = generation, generation*3%1000, generation%2 })
	}
	generations := []int{1, 2, 3, 4, 7, 8, 9, 255, 256, 1 << 32, 1<<32 + 1, 1<<40 - 1, 1 << 40}
	wrong := sector(t, plain)
	wrong[60] ^= 1
	none := api.Super{}
	for _, i := range generations {
		a := sector(t, of(i))
		first, second := none, of(i)
		if i%2 == 0 {
			first, second = of(i), none
		}
		for _, other := range [][]byte{nil, make([]byte, api.SectorBytes), wrong, sector(t, with(func(s *api.Super) { s.Slot = 2 }))} {
			wantPick(t, "one alone, as sector 0", a, other, first)
			wantPick(t, "one alone, as sector 1", other, a, second)
		}
		for _, k := range generations {
			b := sector(t, of(k))
			want := none
			if i%2 == 0 {
				want = of(i)
			}
			if k%2 == 1 && (want == none || k > i) {
				want = of(k)
			}
			wantPick(t, "two", a, b, want)
		}
	}
	for _, x := range [][]byte{nil, make([]byte, api.SectorBytes), wrong} {
		wantPick(t, "none", x, x, none)
	}
}

// P8.2: two copies that say other things beside the generation.
func TestPickOthers(t *testing.T) {
	old := with(func(s *api.Super) { s.Generation, s.Epoch, s.First, s.Slot = 8, 1<<31, 1<<40, 1 })
	young := api.Super{Generation: 9, Geom: api.Geom{Conv: 3, Seq: 8, Len: 9, Limit: 3, Cache: 1}, Epoch: 1}
	wantPick(t, "the greater generation", sector(t, old), sector(t, young), young)
	wantPick(t, "in the wrong places", sector(t, young), sector(t, old), api.Super{})
	wantPick(t, "the same in both", sector(t, old), sector(t, old), old)
}

// P8.2: the next one.
func TestNext(t *testing.T) {
	for _, s := range whole() {
		want := api.Super{Generation: s.Generation + 1, Geom: s.Geom, Slot: 1 - s.Slot, Epoch: 1<<31 + 1 - s.Epoch, First: 1<<40 - s.First, Clean: !s.Clean}
		code := api.OK
		if s.Generation == 1<<40 {
			want, code = api.Super{}, api.ErrArg
		}
		if got, e := super.Next(s, 1-s.Slot, 1<<31+1-s.Epoch, 1<<40-s.First, !s.Clean); got != want || e != code {
			t.Errorf("%v: %v %d, not %v", s, got, e, want)
		}
	}
	for _, s := range broken() {
		if got, e := super.Next(s, 0, 1, 0, true); e != api.ErrArg || got != (api.Super{}) {
			t.Errorf("behind %v: %v %d", s, got, e)
		}
	}
	for _, x := range [][3]int{{-1, 1, 0}, {2, 1, 0}, {math.MaxInt, 1, 0}, {math.MinInt, 1, 0}, {0, 0, 0}, {0, -1, 0}, {0, 1<<31 + 1, 0}, {0, math.MaxInt, 0}, {1, math.MinInt, 0}, {1, 1, -1}, {1, 1, 1<<40 + 1}, {1, 1, math.MinInt}, {1, 1, math.MaxInt}} {
		if got, e := super.Next(plain, x[0], x[1], x[2], false); e != api.ErrArg || got != (api.Super{}) {
			t.Errorf("%v: %v %d", x, got, e)
		}
	}
	if got, e := super.Next(with(func(s *api.Super) { s.Generation = 1<<40 - 1 }), 0, 1, 0, false); e != api.OK || got.Generation != 1<<40 {
		t.Errorf("the last one: %v %d", got, e)
	}
}

// behind is what stood behind the first 32 bytes of a sector.
func behind(was []byte) []byte {
	return append(bytes.Clone(was), make([]byte, api.SectorBytes)...)[32:api.SectorBytes]
}

// P8.3: one superblock after the other is written, each to its copy; whatever
// stands there halfway, the one ahead of it is right.
func TestGoneOn(t *testing.T) {
	s := with(func(s *api.Super) { s.Generation = 1 })
	var disk [2][]byte
	disk[super.Copy(s)], _ = super.Encode(s)
	for i := range 40 {
		next, e := super.Next(s, i%2, i+2, i*7, i%3 == 0)
		if e != api.OK || super.Copy(next) == super.Copy(s) {
			t.Fatal(next, e)
		}
		full, _ := super.Encode(next)
		was := disk[super.Copy(next)]
		for _, broken := range [][]byte{was, nil, make([]byte, 128), append(bytes.Clone(full[:32]), behind(was)...)} {
			disk[super.Copy(next)] = broken
			wantPick(t, "halfway", disk[0], disk[1], s)
		}
		disk[super.Copy(next)] = full
		wantPick(t, "written", disk[0], disk[1], next)
		s = next
	}
}

// R3: what is handed in is not changed, nor the room behind it, and answers are
// new memory.
func TestNothingShared(t *testing.T) {
	one, _ := super.Encode(plain)
	two, _ := super.Encode(plain)
	for i := range one[:cap(one)] {
		one[:cap(one)][i] = 255
	}
	if got, e := super.Decode(two); e != api.OK || got != plain {
		t.Errorf("shared: %v %d", got, e)
	}
	room := append(bytes.Clone(two), bytes.Repeat([]byte{9}, 300)...)
	was := bytes.Clone(room)
	super.Decode(room[:128])
	super.Pick(room[:128], room[:128])
	if !bytes.Equal(room, was) {
		t.Error("changed")
	}
}
