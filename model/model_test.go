package model_test

import (
	"bytes"
	"math"
	"slices"
	"strings"
	"testing"

	"thatch/api"
	"thatch/model"
)

// P24.1: how many sectors there may be; at first they are bytes 0.
func TestNew(t *testing.T) {
	for _, n := range []int{1, 2, 33, 1<<20 - 1, 1 << 20} {
		m := newModel(t, n)
		for _, at := range []int{0, n / 2, n - 1} {
			is(t, m, at, ".", ".")
		}
		for _, at := range []int{-1, n, n + 1, math.MinInt, math.MaxInt} {
			if len(m.Now(at)) > 0 || len(m.Behind(at)) > 0 {
				t.Error("there is a sector", at)
			}
		}
	}
	for _, n := range []int{0, -1, 1<<20 + 1, math.MinInt, math.MaxInt} {
		if m, e := model.New(n); m != nil || e != api.ErrArg {
			t.Error(n, e)
		}
	}
}

// P24.1: what was done is so now, and may be behind a crash.
func TestDone(t *testing.T) {
	m := newModel(t, 6)
	if !m.Wrote(1, fill("abc"), false, api.OK) {
		t.Error("refused")
	}
	is(t, m, 0, ".", ".")
	is(t, m, 1, "a", ".a")
	is(t, m, 2, "b", ".b")
	is(t, m, 3, "c", ".c")
	is(t, m, 4, ".", ".")
	if !m.Wrote(2, fill("dc"), false, api.OK) || !m.Discarded(s(0, 2), api.OK) {
		t.Error("refused")
	}
	is(t, m, 0, ".", ".")
	is(t, m, 1, ".", ".a")
	is(t, m, 2, "d", ".bd")
	is(t, m, 3, "c", ".c")
	m.Flushed(api.OK)
	is(t, m, 1, ".", ".")
	is(t, m, 2, "d", "d")
	is(t, m, 3, "c", "c")
	// Each content is there once, where it came first.
	for _, c := range "xydyxz" {
		m.Wrote(2, fill(string(c)), false, api.OK)
	}
	is(t, m, 2, "z", "dxyz")
	// With fua all is settled, other sectors too.
	if !m.Wrote(5, fill("f"), true, api.OK) {
		t.Error("refused")
	}
	is(t, m, 2, "z", "z")
	is(t, m, 5, "f", "f")
}

// P24.1: by which codes something is perhaps done, by which nothing happens.
func TestCodes(t *testing.T) {
	for _, fua := range []bool{false, true} {
		for _, code := range perhaps() {
			m := newModel(t, 4)
			m.Wrote(1, fill("a"), false, api.OK)
			if !m.Wrote(1, fill("bc"), fua, code) {
				t.Error(code)
			}
			is(t, m, 1, "ab", ".ab")
			is(t, m, 2, ".c", ".c")
			if !m.Discarded(s(1, 1), code) || !m.Wrote(2, fill("d"), fua, code) {
				t.Error(code)
			}
			is(t, m, 1, "ab.", ".ab")
			is(t, m, 2, ".cd", ".cd")
			m.Flushed(code)
			is(t, m, 1, "ab.", ".ab")
			m.Flushed(api.OK)
			is(t, m, 1, "ab.", "ab.")
		}
		for _, code := range nothing() {
			m := newModel(t, 4)
			m.Wrote(1, fill("a"), false, api.OK)
			if !m.Wrote(1, fill("bc"), fua, code) || !m.Discarded(s(0, 4), code) || !m.Wrote(9, nil, fua, code) || !m.Discarded(s(-4, 9), code) {
				t.Error(code)
			}
			m.Flushed(code)
			is(t, m, 1, "a", ".a")
			is(t, m, 2, ".", ".")
		}
	}
}

// P24.1: what can not have been OK is false, and not noted.
func TestNotWithin(t *testing.T) {
	m := newModel(t, 4)
	m.Wrote(1, fill("a"), false, api.OK)
	for _, fua := range []bool{false, true} {
		for _, at := range []int{-1, 4, 5, math.MinInt, math.MaxInt, 1 << 40, -4} {
			if m.Wrote(at, fill("b"), fua, api.OK) || m.Wrote(at, fill("bcde"), fua, api.OK) || m.Wrote(at, nil, fua, api.OK) {
				t.Error(at)
			}
		}
		for at := range 5 {
			b := fill("bcdef")
			for _, n := range []int{0, 1, 127, 129, 255, 257, 640 - 1, 640 - 128*at} {
				if m.Wrote(at, b[:n], fua, api.OK) {
					t.Error(at, n)
				}
			}
		}
	}
	for _, x := range []api.Span{{}, s(0, 0), s(3, 0), s(4, 0), s(4, 1), s(0, 5), s(3, 2), s(-1, 1), s(-1, 2), s(1, -1), s(math.MaxInt, 1), s(1, math.MaxInt), s(math.MaxInt, math.MaxInt), s(math.MinInt, math.MinInt), s(0, 1<<40), s(0, 1<<40+1), s(1<<40, 0), s(2, 1<<40-1)} {
		if m.Discarded(x, api.OK) {
			t.Error(x)
		}
	}
	for _, at := range []int{0, 2, 3} {
		is(t, m, at, ".", ".")
	}
	is(t, m, 1, "a", ".a")
	if !m.Wrote(0, fill("bcde"), false, api.OK) || !m.Discarded(s(0, 4), api.OK) || !m.Wrote(3, fill("x"), false, api.OK) {
		t.Error("all is within")
	}
}

// P24.1: of what was perhaps done the sectors are noted that are within the model,
// if the first one is; not a last part that is none.
func TestPerhapsWithin(t *testing.T) {
	for _, fua := range []bool{false, true} {
		m := newModel(t, 4)
		for _, at := range []int{-1, -2, 4, 5, math.MinInt, math.MaxInt} {
			if !m.Wrote(at, fill("abc"), fua, api.ErrIO) || !m.Discarded(s(at, 9), api.ErrIO) {
				t.Error(at)
			}
		}
		for at := range 4 {
			is(t, m, at, ".", ".")
		}
		if !m.Wrote(2, fill("abcdef"), fua, api.ErrIO) || !m.Wrote(0, fill("gh")[:200], fua, api.ErrReadOnly) || !m.Wrote(1, fill("i")[:127], fua, api.ErrOff) || !m.Wrote(1, nil, fua, api.ErrOff) {
			t.Error("refused")
		}
		is(t, m, 0, ".g", ".g")
		is(t, m, 1, ".", ".")
		is(t, m, 2, ".a", ".a")
		is(t, m, 3, ".b", ".b")
		m.Flushed(api.OK)
		// Spans that may be are noted as far as the model goes; others are not.
		for _, x := range []api.Span{s(2, -1), s(2, 1<<40), s(2, math.MaxInt), s(2, math.MinInt), s(2, 0)} {
			if !m.Discarded(x, api.ErrIO) {
				t.Error(x)
			}
		}
		m.Wrote(0, fill("g"), true, api.OK)
		m.Wrote(2, fill("x"), true, api.OK)
		if !m.Discarded(s(2, 1<<40), api.ErrIO) {
			t.Error("refused")
		}
		is(t, m, 2, "x", "x")
		if !m.Discarded(s(2, 1<<40-2), api.ErrIO) {
			t.Error("refused")
		}
		is(t, m, 0, "g", "g")
		is(t, m, 1, ".", ".")
		is(t, m, 2, "x.", "x.")
		is(t, m, 3, ".b", ".b")
	}
}

// P24.2: behind a crash a sector is what it may be; what is read of it then is so
// for good, but not where something was noted since.
func TestCrashedSaw(t *testing.T) {
	m := newModel(t, 4)
	m.Wrote(1, fill("a"), true, api.OK)
	m.Wrote(1, fill("bc"), false, api.OK)
	m.Crashed()
	is(t, m, 1, "ab", "ab")
	is(t, m, 2, ".c", ".c")
	if m.Saw(1, fill("ax")) || m.Saw(1, fill("c")) || m.Saw(0, fill("aa")) || m.Saw(1, fill("ab")) {
		t.Error("may not be")
	}
	is(t, m, 1, "ab", "ab")
	is(t, m, 2, ".c", ".c")
	f := m.Fork()
	if !m.Saw(1, fill("bc.")) {
		t.Error("may be")
	}
	is(t, m, 1, "b", "b")
	is(t, m, 2, "c", "c")
	is(t, m, 3, ".", ".")
	// Not fixed: it may be another one behind a crash.
	m = f
	m.Wrote(2, fill("d"), false, api.ErrIO)
	if !m.Saw(0, fill(".ad")) {
		t.Error("may be")
	}
	is(t, m, 1, "a", "a")
	is(t, m, 2, "d", ".cd")
	if m.Saw(2, fill("c")) {
		t.Error("it was seen to be another one")
	}
	m.Crashed()
	is(t, m, 2, ".cd", ".cd")
	if !m.Saw(2, fill("c")) {
		t.Error("may be")
	}
	is(t, m, 2, "c", "c")
	// A code by which nothing happens leaves it fixed; a settling lets it be so.
	m.Wrote(3, fill("e"), false, api.ErrIO)
	m.Flushed(api.OK)
	m.Wrote(3, fill("f"), true, api.ErrBusy)
	m.Discarded(s(3, 1), api.ErrLong)
	is(t, m, 3, ".e", ".e")
	if !m.Saw(3, fill("e")) {
		t.Error("may be")
	}
	is(t, m, 3, "e", "e")
}

// P24.2: a sector that was written with what it has is not fixed, either.
func TestSawWrittenSame(t *testing.T) {
	for _, code := range []api.Errno{api.OK, api.ErrIO} {
		m := newModel(t, 2)
		m.Wrote(0, fill("ab"), false, api.ErrIO)
		m.Crashed()
		m.Wrote(0, fill("a"), false, code)
		if !m.Saw(0, fill("ab")) {
			t.Error("may be")
		}
		is(t, m, 0, "a", ".a")
		is(t, m, 1, "b", "b")
	}
}

// P24.2: what is no read.
func TestSawNone(t *testing.T) {
	m := newModel(t, 3)
	m.Wrote(1, fill("a"), false, api.ErrIO)
	for _, at := range []int{-1, 3, 4, math.MinInt, math.MaxInt} {
		if m.Saw(at, fill(".")) || m.Saw(at, nil) {
			t.Error(at)
		}
	}
	for at := range 3 {
		if m.Saw(at, nil) || m.Saw(at, fill("..")[:129]) || m.Saw(at, fill(".")[:127]) || m.Saw(at, fill("....")) || m.Saw(at, fill(".....")[:128*(4-at)]) {
			t.Error(at)
		}
	}
	is(t, m, 1, ".a", ".a")
	if !m.Saw(0, fill("...")) {
		t.Error("may be")
	}
	is(t, m, 1, ".", ".a")
}

// P24.2: forks are the same, and share nothing; R3: neither does what is handed in,
// or answered.
func TestForkShares(t *testing.T) {
	m := newModel(t, 3)
	b := fill("ab")
	m.Wrote(0, b, false, api.ErrIO)
	clear(b)
	is(t, m, 0, ".a", ".a")
	f := m.Fork()
	l, r := m.Now(0), m.Behind(0)
	for _, b := range append(l[:cap(l)], r[:cap(r)]...) {
		clear(b[:cap(b)])
	}
	clear(l[:cap(l)])
	clear(r[:cap(r)])
	is(t, m, 0, ".a", ".a")
	m.Wrote(0, fill("c"), false, api.ErrIO)
	f.Wrote(0, fill("d"), false, api.ErrIO)
	is(t, m, 0, ".ac", ".ac")
	is(t, f, 0, ".ad", ".ad")
	f.Crashed()
	f.Saw(0, fill("d"))
	m.Wrote(1, fill("e"), true, api.OK)
	is(t, m, 0, ".ac", ".ac")
	is(t, m, 1, "e", "e")
	is(t, f, 0, "d", "d")
	is(t, f, 1, ".b", ".b")
	if f.Sectors() != 3 {
		t.Error(f.Sectors())
	}
	// A fixed sector of a fork is fixed.
	f = f.Fork()
	if !f.Saw(1, fill("b")) {
		t.Error("may be")
	}
	is(t, f, 1, "b", "b")
}

// P24.2: of nil.
func TestNil(t *testing.T) {
	var m *model.Model
	m.Flushed(api.OK)
	m.Crashed()
	if m.Wrote(0, fill("a"), true, api.OK) || m.Wrote(0, fill("a"), true, api.ErrIO) || m.Discarded(s(0, 1), api.OK) || m.Discarded(s(0, 1), api.ErrIO) || m.Saw(0, fill(".")) {
		t.Error("something of nil")
	}
	if len(m.Now(0)) > 0 || len(m.Behind(0)) > 0 || m.Sectors() != 0 || m.Fork() != nil {
		t.Error("something of nil")
	}
}

// P24.1 to P24.3: many requests, crashes, reads and forks: as a plain model has it.
func TestAny(t *testing.T) {
	const all = ".abcde"
	for seed := range uint64(200) {
		number := numbers(seed)
		n := 1 + number(8)
		m, p := newModel(t, n), newPlain(n)
		text := func() string {
			var l strings.Builder
			for range 1 + number(4) {
				l.WriteByte(all[number(len(all))])
			}
			return l.String()
		}
		for range 60 {
			code := api.OK
			switch number(3) {
			case 0:
				code = perhaps()[number(len(perhaps()))]
			case 1:
				code = nothing()[number(len(nothing()))]
			}
			at, letters := number(n+2)-1, text()
			within := at >= 0 && at+len(letters) <= n
			fua := number(5) == 0
			switch number(8) {
			case 0, 1, 2:
				if m.Wrote(at, fill(letters), fua, code) != (code != api.OK || within) {
					t.Fatal(at, letters, code)
				}
				if code != api.OK || within {
					p.note(at, letters, code)
				}
				if fua && within && code == api.OK {
					p.settle()
				}
			case 3:
				if m.Discarded(s(at, len(letters)), code) != (code != api.OK || within) {
					t.Fatal(at, letters, code)
				}
				if at >= 0 && (code != api.OK || within) {
					p.note(at, strings.Repeat(".", len(letters)), code)
				}
			case 4:
				m.Flushed(code)
				if code == api.OK {
					p.settle()
				}
			case 5:
				m.Crashed()
				p.crash()
			case 6:
				other := m.Fork()
				m, other = other, m
				other.Wrote(0, fill("x"), true, api.OK)
			default:
				if m.Saw(at, fill(letters)) != p.saw(at, letters) {
					t.Fatal(at, letters)
				}
			}
			alike(t, m, p)
			if t.Failed() {
				t.Fatal(seed)
			}
		}
	}
}

// P24.3: what may be now may be behind a crash; behind a flush just that; where all
// is done, there is one content: what was written last.
func TestFollows(t *testing.T) {
	for seed := range uint64(50) {
		number := numbers(900 + seed)
		m := newModel(t, 5)
		last := fill(".....")
		done := seed%2 == 0
		for range 80 {
			at, b := number(5), fill(string(rune('a'+number(9))))
			code := api.OK
			if !done && number(2) == 0 {
				code = api.ErrIO
			}
			switch number(5) {
			case 0:
				m.Flushed(api.OK)
				for at := range 5 {
					if !slices.EqualFunc(m.Now(at), m.Behind(at), bytes.Equal) {
						t.Fatal("behind a flush", at)
					}
				}
			case 1:
				m.Discarded(s(at, 1), code)
				clear(last[at*128 : (at+1)*128])
			default:
				m.Wrote(at, b, number(9) == 0, code)
				copy(last[at*128:], b)
			}
			if !done && number(9) == 0 {
				m.Crashed()
			}
			for at := range 5 {
				now, behind := m.Now(at), m.Behind(at)
				for _, b := range now {
					if !slices.ContainsFunc(behind, func(c []byte) bool { return bytes.Equal(b, c) }) {
						t.Fatal("now, and not behind a crash", at)
					}
				}
				if done && (len(now) != 1 || !bytes.Equal(now[0], last[at*128:(at+1)*128])) {
					t.Fatal("not what was written last", at)
				}
			}
			if done && !m.Saw(0, last) {
				t.Fatal("what was written last may not be")
			}
		}
	}
}
