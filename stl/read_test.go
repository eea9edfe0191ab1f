package stl_test

import (
	"bytes"
	"math"
	"slices"
	"testing"

	"thatch/api"
	"thatch/band"
)

// mixed is a device of which bands 0 and 1 have homes, zones 4 and 5, and band 2
// has none; some extents of the map lie in zone 2, some are holes.
func mixed(t *testing.T) *kit {
	t.Helper()
	k := newKit(t, small)
	k.write(2, 8, false, api.OK)
	k.write(11, 2, false, api.OK)
	k.write(15, 7, false, api.OK)
	k.drain()
	k.homes(4, 5, nowhere)
	k.write(4, 3, false, api.OK)
	k.discard(9, 4, api.OK)
	k.write(20, 4, false, api.OK)
	k.discard(30, 2, api.OK)
	return k
}

// P23.1: all spans that the device has are read, each as it is.
func TestRead(t *testing.T) {
	k := mixed(t)
	for at := range 33 {
		for n := 1; n <= 33-at; n++ {
			if b, e := k.dev.Read(at, n); e != api.OK || !bytes.Equal(b, k.plain[at*128:(at+n)*128]) {
				t.Errorf("%d, %d: %d", at, n, e)
			}
		}
	}
}

// P23.1: each extent, hole and gap is read in order, a home's part of a gap band by
// band; of bytes 0 nothing is.
func TestReadInOrder(t *testing.T) {
	k := mixed(t)
	try := func(at, n int, want ...cmd) {
		t.Helper()
		k.gives(func() { k.dev.Read(at, n) }, want...)
	}
	try(0, 33,
		read(4, 1, 4), read(2, 1, 3), read(4, 8, 2),
		read(5, 3, 7), read(2, 6, 2), read(2, 9, 2))
	try(5, 3, read(2, 2, 2), read(4, 8, 1))
	try(20, 4, read(2, 6, 2), read(2, 9, 2))
	try(9, 4)
	try(24, 9)
	// Without what lies in the cache: the homes' parts, band by band.
	k.drain()
	k.homes(3, 4, 5)
	k.discard(30, 1, api.OK)
	k.discard(9, 4, api.OK)
	try(3, 28, read(3, 4, 6), read(4, 3, 9), read(5, 1, 8))
	try(13, 20, read(4, 3, 9), read(5, 1, 8), read(5, 10, 2))
	k.reads()
}

// P23.1: what is not the device's is refused.
func TestReadRefused(t *testing.T) {
	k := mixed(t)
	k.nothing(func() {
		for _, x := range []api.Span{s(0, 0), s(5, 0), s(5, -1), s(-1, 1), s(-1, 5), s(33, 1), s(32, 2), s(0, 34), s(33, 0), s(0, math.MaxInt), s(math.MaxInt, 1), s(math.MaxInt, math.MaxInt), s(math.MinInt, math.MinInt), s(3, math.MinInt), s(1<<40, 1)} {
			if b, e := k.dev.Read(x.At, x.N); len(b) > 0 || e != api.ErrRange {
				t.Errorf("%v: %d", x, e)
			}
		}
		for _, at := range []int{-1, 33, 34, math.MinInt, math.MaxInt, 1 << 40} {
			if zone, off, e := k.dev.Where(at); zone != 0 || off != 0 || e != api.ErrRange {
				t.Errorf("sector %d lies in %d, %d: %d", at, zone, off, e)
			}
		}
	})
}

// P23.1: what can not be read is ErrIO, and nothing else is.
func TestReadBroken(t *testing.T) {
	for at := range 33 {
		k := mixed(t)
		zone, off, e := k.dev.Where(at)
		must(t, e)
		if zone == nowhere {
			continue
		}
		must(t, k.disk.Spoil(zone*12+off))
		for from := range 33 {
			for n := 1; n <= 33-from; n++ {
				b, e := k.dev.Read(from, n)
				if from <= at && at < from+n {
					if len(b) > 0 || e != api.ErrIO {
						t.Fatalf("%d is spoiled; %d, %d: %d", at, from, n, e)
					}
				} else if e != api.OK || !bytes.Equal(b, k.plain[from*128:(from+n)*128]) {
					t.Fatalf("%d is spoiled; %d, %d: %d", at, from, n, e)
				}
			}
		}
	}
	k := mixed(t)
	must(t, k.disk.Hurt(5, api.ZoneOffline))
	if _, e := k.dev.Read(13, 1); e != api.ErrIO {
		t.Error("offline", e)
	}
	must(t, k.disk.Hurt(4, api.ZoneReadOnly))
	k.readsOne(0)
}

// P23.8: where each sector lies: the extents' places, the homes', or nowhere.
func TestWhere(t *testing.T) {
	k := mixed(t)
	lies := map[int]where{}
	for at := range 11 {
		lies[at], lies[11+at] = where{4, at + 1}, where{5, at + 1}
		lies[22+at] = where{nowhere, 0}
	}
	for _, x := range k.dev.State().Extents {
		for i := range x.N {
			lies[x.At+i] = where{x.Zone, x.Off + i}
			if x.Zone == nowhere {
				lies[x.At+i] = where{nowhere, 0}
			}
		}
	}
	k.nothing(func() {
		for at := range 33 {
			if zone, off, e := k.dev.Where(at); e != api.OK || (where{zone, off}) != lies[at] {
				t.Errorf("sector %d lies in %d, %d, not %v: %d", at, zone, off, lies[at], e)
			}
		}
	})
	for at := range 33 {
		zone, off, _ := k.dev.Where(at)
		if zone == nowhere {
			continue
		}
		b, e := k.disk.Read(zone*12+off, 1)
		if e != api.OK || !bytes.Equal(b, k.plain[at*128:(at+1)*128]) {
			t.Errorf("sector %d does not lie there", at)
		}
	}
}

// verified wants the bands that are told to be wrong.
func (k *kit) verified(want ...int) {
	k.t.Helper()
	l, e := k.dev.Verify()
	if e != api.OK || !slices.Equal(l, want) {
		k.t.Errorf("wrong: %v %d, not %v", l, e, want)
	}
}

// instead writes a zone anew.
func (k *kit) instead(zone int, sectors ...[]byte) {
	k.t.Helper()
	b := bytes.Join(sectors, nil)
	must(k.t, k.disk.Reset(zone))
	if len(b) > 0 {
		must(k.t, k.disk.Write(zone*k.geom.Len, b))
	}
}

// homely is a device of which all bands have homes.
func homely(t *testing.T) *kit {
	t.Helper()
	k := newKit(t, small)
	k.write(5, 8, false, api.OK)
	k.write(22, 5, false, api.OK)
	k.drain()
	k.homes(4, 5, 2)
	return k
}

// P23.8: bands of which the home is not what it was made.
func TestVerify(t *testing.T) {
	newKit(t, small).verified()
	mixed(t).verified()
	homely(t).verified()
	// A sector of each home that can not be read, one after the other.
	for _, off := range []int{0, 1, 6, 11} {
		k := homely(t)
		must(t, k.disk.Spoil(2*12+off))
		k.verified(2)
		must(t, k.disk.Spoil(5*12+off))
		k.verified(1, 2)
		must(t, k.disk.Spoil(4*12+off))
		k.verified(0, 1, 2)
	}
	k := homely(t)
	must(t, k.disk.Hurt(4, api.ZoneReadOnly))
	k.verified()
	must(t, k.disk.Hurt(4, api.ZoneOffline))
	k.verified(0)
	// What lies in the cache, or is nothing, does not matter.
	k = homely(t)
	k.write(3, 8, false, api.OK)
	k.discard(20, 8, api.OK)
	k.verified()
}

// P23.8: labels that are none, are another band's, or are not right, and homes
// that are not written whole.
func TestVerifyLabels(t *testing.T) {
	first, _ := homely(t).disk.Read(4*12, 12)
	second, _ := homely(t).disk.Read(5*12, 12)
	content := first[128:]
	label := func(b, upto int, content []byte) []byte {
		x, e := band.Of(small, b, upto, content)
		must(t, e)
		l, e := band.Encode(small, x)
		must(t, e)
		return l
	}
	for what, x := range map[string]struct {
		sectors [][]byte
		wrong   []int
	}{
		"as it was":                   {[][]byte{first}, nil},
		"another number":              {[][]byte{label(0, 1, content), content}, nil},
		"another band's":              {[][]byte{second}, []int{0}},
		"another band's label":        {[][]byte{label(1, 3, content), content}, []int{0}},
		"another content's label":     {[][]byte{label(0, 3, second[128:]), content}, []int{0}},
		"a label's content and sum":   {[][]byte{label(0, 3, second[128:]), second[128:]}, nil},
		"no label":                    {[][]byte{some(12, 4)}, []int{0}},
		"the content, and no label":   {[][]byte{some(1, 4), content}, []int{0}},
		"the label behind":            {[][]byte{content, first[:128]}, []int{0}},
		"nothing":                     {nil, []int{0}},
		"all but the last one":        {[][]byte{first[:11*128]}, []int{0}},
		"the label alone":             {[][]byte{first[:128]}, []int{0}},
		"another last sector":         {[][]byte{first[:11*128], some(1, 4)}, []int{0}},
		"a label with another nought": {[][]byte{append(slices.Clone(first[:127]), 1), content}, []int{0}},
	} {
		k := homely(t)
		k.instead(4, x.sectors...)
		l, e := k.dev.Verify()
		if e != api.OK || !slices.Equal(l, x.wrong) {
			t.Errorf("%s: wrong: %v %d, not %v", what, l, e, x.wrong)
		}
	}
}
