package band_test

import (
	"bytes"
	"math"
	"slices"
	"testing"

	"thatch/api"
	"thatch/band"
	"thatch/crc"
)

// P18.2: which labels may be.
func TestMayLabel(t *testing.T) {
	for _, x := range wholeGeoms() {
		for _, label := range wholeLabels(x) {
			if !band.MayLabel(x, label) {
				t.Errorf("%v: %v", x, label)
			}
		}
		for _, label := range brokenLabels(x) {
			if band.MayLabel(x, label) {
				t.Errorf("%v: %v", x, label)
			}
		}
	}
	for _, x := range brokenGeoms() {
		for _, label := range append(wholeLabels(small), brokenLabels(small)...) {
			if band.MayLabel(x, label) {
				t.Errorf("%v: %v", x, label)
			}
		}
	}
}

// P18.2: a label's sector, byte by byte, and the label of it.
func TestEncodeDecode(t *testing.T) {
	for _, x := range wholeGeoms() {
		for _, label := range wholeLabels(x) {
			sector, e := band.Encode(x, label)
			if e != api.OK || !bytes.Equal(sector, labelSector(t, label)) {
				t.Fatalf("%v: %v: %d", x, label, e)
			}
			if got, e := band.Decode(x, sector); e != api.OK || got != label {
				t.Fatalf("%v: %v: %v %d", x, label, got, e)
			}
		}
	}
	sector, e := band.Encode(small, api.Label{Band: 2, Upto: 0x0102030405, Sum: 0xA1B2C3D4})
	want := []byte{'L', 'B', 2, 0, 0, 0, 5, 4, 3, 2, 1, 0, 0, 0, 0xD4, 0xC3, 0xB2, 0xA1, 0, 0}
	if e != api.OK || len(sector) != 128 || !bytes.Equal(sector[4:24], want) {
		t.Errorf("% x, %d", sector, e)
	}
}

// P18.2: labels that may not be have no sector, and none of theirs is a label's.
func TestLabelRefused(t *testing.T) {
	for _, x := range wholeGeoms() {
		for _, label := range brokenLabels(x) {
			if sector, e := band.Encode(x, label); len(sector) > 0 || e != api.ErrArg {
				t.Errorf("%v: %v: %d", x, label, e)
			}
			// A number of which the sector has but the lowest bytes is another
			// one, which may be.
			if label.Band >= 0 && label.Band < 1<<32 && label.Sum >= 0 && label.Sum < 1<<32 {
				wantNoLabel(t, "a broken label", x, labelSector(t, label))
			}
		}
	}
	for _, x := range brokenGeoms() {
		for _, label := range append(wholeLabels(small)[:9], brokenLabels(small)...) {
			if sector, e := band.Encode(x, label); len(sector) > 0 || e != api.ErrGeom {
				t.Errorf("%v: Encode: %d", x, e)
			}
			for _, b := range [][]byte{nil, labelSector(t, label), some(1, 1)} {
				if got, e := band.Decode(x, b); got != (api.Label{}) || e != api.ErrGeom {
					t.Errorf("%v: Decode: %v %d", x, got, e)
				}
			}
		}
	}
}

// P18.2: what is no label's sector.
func TestDecodeRefused(t *testing.T) {
	label := api.Label{Band: 1, Upto: 50, Sum: 0x01020304}
	sector := labelSector(t, label)
	for i := range sector {
		for _, turn := range []byte{1, 0x80, 0xFF} {
			b := bytes.Clone(sector)
			b[i] ^= turn
			wantNoLabel(t, "one byte is another one", small, b)
		}
	}
	for _, n := range []int{0, 1, 4, 22, 127} {
		wantNoLabel(t, "too short", small, sector[:n])
	}
	wantNoLabel(t, "too long", small, append(bytes.Clone(sector), 0))
	wantNoLabel(t, "two", small, append(bytes.Clone(sector), sector...))
	wantNoLabel(t, "nothing", small, nil)
	wantNoLabel(t, "bytes 0", small, make([]byte, 128))
	wantNoLabel(t, "sealed bytes 0", small, sealed(t, nil))
	parts := labelParts(label)
	for _, mark := range []string{"", "L", "lb", "LA", "MB", "BL", "BT", "PG", "JR", " LB"} {
		wantNoLabel(t, "the mark "+mark, small, sealed(t, bytes.Join(append([][]byte{[]byte(mark)}, parts[1:]...), nil)))
	}
	for behind := range 106 {
		b := append(bytes.Join(parts, nil), make([]byte, behind)...)
		wantNoLabel(t, "something behind it", small, sealed(t, append(b, 1)))
	}
	// 64 bits of which the highest one is set are no number from 0 on.
	for _, upto := range []int{-1, math.MinInt, math.MinInt + 50, 1<<40 + 1, 1 << 56} {
		wantNoLabel(t, "Upto", small, labelSector(t, api.Label{Band: 1, Upto: upto, Sum: 7}))
	}
	for _, no := range []int{3, 4, 255, 256, 1 << 16, 1<<24 + 1, 1 << 31, 1<<32 - 1} {
		wantNoLabel(t, "no band", small, labelSector(t, api.Label{Band: no, Upto: 50, Sum: 7}))
	}
	if got, e := band.Decode(narrow, sector); e != api.OK || got != label {
		t.Error("narrow", got, e)
	}
	wantNoLabel(t, "no band of narrow", narrow, labelSector(t, api.Label{Band: 2, Upto: 50, Sum: 7}))
}

// P18.2: the label of a content, and what is right for it.
func TestOfRight(t *testing.T) {
	for _, x := range wholeGeoms() {
		c := content(x, 8)
		for _, like := range wholeLabels(x) {
			want := api.Label{Band: like.Band, Upto: like.Upto, Sum: int(crc.Sum(c))}
			got, e := band.Of(x, like.Band, like.Upto, c)
			if e != api.OK || got != want {
				t.Fatalf("%v: %v %d, not %v", x, got, e, want)
			}
			if !band.Right(x, want, c) || band.Right(x, like, c) {
				t.Fatalf("%v: %v is not right, or %v is", x, want, like)
			}
			// Any band, and any Upto, that may be are a label's own.
			other := want
			other.Band, other.Upto = bandsOf(x)-1, 77
			if !band.Right(x, other, c) {
				t.Errorf("%v: %v is not right", x, other)
			}
		}
	}
	blank := band.Blank(small)
	if got, e := band.Of(small, 0, 0, blank); e != api.OK || got.Sum != int(crc.Sum(make([]byte, 15*128))) {
		t.Error(got, e)
	}
}

// P18.2: a content of which anything is another one is not what a label is right for.
func TestNotRight(t *testing.T) {
	c := content(narrow, 4)
	label, e := band.Of(narrow, 1, 50, c)
	if e != api.OK {
		t.Fatal(e)
	}
	for i := range c {
		b := bytes.Clone(c)
		b[i] ^= 1 << (i % 8)
		if band.Right(narrow, label, b) {
			t.Errorf("byte %d is another one", i)
		}
	}
	for _, n := range []int{0, 128, len(c) - 128, len(c) - 1} {
		if band.Right(narrow, label, c[:n]) {
			t.Errorf("%d bytes", n)
		}
	}
	if band.Right(narrow, label, append(bytes.Clone(c), make([]byte, 128)...)) || band.Right(narrow, label, nil) {
		t.Error("no content")
	}
	for _, sum := range []int{0, -1, label.Sum + 1, label.Sum - 1, label.Sum + 1<<32, label.Sum - 1<<32, math.MaxInt} {
		if band.Right(narrow, api.Label{Band: 1, Upto: 50, Sum: sum}, c) {
			t.Errorf("sum %d", sum)
		}
	}
	for _, broken := range brokenLabels(narrow) {
		if broken.Sum == 7 {
			broken.Sum = label.Sum
		}
		if band.Right(narrow, broken, c) {
			t.Errorf("%v is right", broken)
		}
	}
	for _, x := range brokenGeoms() {
		if band.Right(x, label, c) || band.Right(x, api.Label{}, nil) {
			t.Errorf("%v: right", x)
		}
	}
	// Where there is no label, the empty one is not right, either.
	if band.Right(narrow, api.Label{}, nil) {
		t.Error("of no content")
	}
}

// P18.2: of what there is no label.
func TestOfRefused(t *testing.T) {
	for _, x := range wholeGeoms() {
		c := content(x, 8)
		for _, no := range brokenLabels(x) {
			if no.Sum != 7 {
				continue
			}
			if got, e := band.Of(x, no.Band, no.Upto, c); got != (api.Label{}) || e != api.ErrArg {
				t.Errorf("%v: %v: %v %d", x, no, got, e)
			}
		}
		for _, b := range [][]byte{nil, {}, c[:len(c)-1], c[:len(c)-128], c[:128], slices.Concat(c, c), append(bytes.Clone(c), 0)} {
			if got, e := band.Of(x, 0, 5, b); got != (api.Label{}) || e != api.ErrArg {
				t.Errorf("%v: %d bytes: %v %d", x, len(b), got, e)
			}
		}
	}
	for _, x := range brokenGeoms() {
		for _, b := range [][]byte{nil, content(small, 1)} {
			if got, e := band.Of(x, 0, 5, b); got != (api.Label{}) || e != api.ErrGeom {
				t.Errorf("%v: %v %d", x, got, e)
			}
		}
	}
}

// R3: sectors and contents are not changed, and each sector is new.
func TestLabelsShareNothing(t *testing.T) {
	label := api.Label{Band: 1, Upto: 50, Sum: 9}
	want := labelSector(t, label)
	for range 2 {
		sector, e := band.Encode(small, label)
		if e != api.OK || !bytes.Equal(sector, want) {
			t.Error(e)
		}
		if got, e := band.Decode(small, sector); e != api.OK || got != label || !bytes.Equal(sector, want) {
			t.Error(got, e)
		}
		clear(sector[:cap(sector)])
	}
	c := content(small, 2)
	band.Of(small, 1, 50, c)
	band.Right(small, label, c)
	if !bytes.Equal(c, content(small, 2)) {
		t.Error("the content is changed")
	}
}
