package model_test

import (
	"bytes"
	"math"
	"slices"
	"testing"

	"thatch/api"
	"thatch/model"
)

// numbers makes numbers from 0 on, below one that is said: the same ones each time.
func numbers(seed uint64) func(below int) int {
	x := seed*0x9E3779B97F4A7C15 + 1
	return func(below int) int {
		x ^= x << 13
		x ^= x >> 7
		x ^= x << 17
		return int(x>>11) % below
	}
}

func s(at, n int) api.Span { return api.Span{At: at, N: n} }

// fill is sectors, each all of one letter; a dot is a sector of bytes 0.
func fill(letters string) []byte {
	var b []byte
	for _, c := range []byte(letters) {
		if c == '.' {
			c = 0
		}
		b = append(b, bytes.Repeat([]byte{c}, 128)...)
	}
	return b
}

// letters is contents as fill has them.
func letters(t *testing.T, l [][]byte) string {
	t.Helper()
	var all []byte
	for _, b := range l {
		if len(b) != 128 || !bytes.Equal(b, bytes.Repeat(b[:1], 128)) {
			t.Fatal("no content of these tests", b)
		}
		if b[0] == 0 {
			b = []byte{'.'}
		}
		all = append(all, b[0])
	}
	return string(all)
}

func newModel(t *testing.T, n int) *model.Model {
	t.Helper()
	m, e := model.New(n)
	if e != api.OK || m.Sectors() != n {
		t.Fatal(n, e)
	}
	return m
}

// is wants what a sector may have now, and behind a crash, in this order.
func is(t *testing.T, m *model.Model, at int, now, behind string) {
	t.Helper()
	if got := letters(t, m.Now(at)); got != now {
		t.Errorf("sector %d is %q now, not %q", at, got, now)
	}
	if got := letters(t, m.Behind(at)); got != behind {
		t.Errorf("sector %d is %q behind a crash, not %q", at, got, behind)
	}
}

// nothing are the codes by which nothing happens; perhaps are some of those by
// which something perhaps does.
func nothing() []api.Errno {
	return []api.Errno{api.ErrBusy, api.ErrRange, api.ErrArg, api.ErrLong, api.ErrClosed}
}

func perhaps() []api.Errno {
	return []api.Errno{api.ErrIO, api.ErrReadOnly, api.ErrOff, api.ErrFull, api.ErrNone, api.ErrTwice, api.ErrMedia, api.ErrMeta, api.ErrState, -1, 7, 1000, math.MinInt, math.MaxInt}
}

// plainSector is what a sector may have, letter by letter.
type plainSector struct {
	now, behind string
	loose       bool // something was noted since the last crash or settling
}

// plain is a model as the chapter tells of it.
type plain []plainSector

func newPlain(n int) plain {
	p := make(plain, n)
	for i := range p {
		p[i] = plainSector{now: ".", behind: "."}
	}
	return p
}

func (p plain) settle() {
	for i := range p {
		p[i].behind, p[i].loose = p[i].now, false
	}
}

func (p plain) crash() {
	for i := range p {
		p[i].now, p[i].loose = p[i].behind, false
	}
}

// more is letters with one more, each once.
func more(l string, c byte) string {
	if bytes.IndexByte([]byte(l), c) >= 0 {
		return l
	}
	return l + string(rune(c))
}

func (p plain) note(at int, letters string, code api.Errno) {
	if at < 0 || at >= len(p) || slices.Contains(nothing(), code) {
		return
	}
	for i := range letters {
		if at+i >= len(p) {
			return
		}
		x := &p[at+i]
		x.behind, x.loose = more(x.behind, letters[i]), true
		if code == api.OK {
			x.now = letters[i : i+1]
		} else {
			x.now = more(x.now, letters[i])
		}
	}
}

func (p plain) saw(at int, letters string) bool {
	if len(letters) == 0 || at < 0 || at > len(p)-len(letters) {
		return false
	}
	for i := range letters {
		if bytes.IndexByte([]byte(p[at+i].now), letters[i]) < 0 {
			return false
		}
	}
	for i := range letters {
		x := &p[at+i]
		x.now = letters[i : i+1]
		if !x.loose {
			x.behind = x.now
		}
	}
	return true
}

// alike wants that a model is as a plain one.
func alike(t *testing.T, m *model.Model, p plain) {
	t.Helper()
	for at, x := range p {
		is(t, m, at, x.now, x.behind)
	}
}
