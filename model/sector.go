package model

import (
	"slices"

	"thatch/api"
	"thatch/span"
)

// blank is a sector of bytes 0.
func blank() string {
	return string(make([]byte, api.SectorBytes))
}

// sectorOf is the i-th sector of data.
func sectorOf(data []byte, i int) string {
	return string(data[i*api.SectorBytes : (i+1)*api.SectorBytes])
}

// isIn tells whether a content is among others.
func isIn(l []string, content string) bool {
	return slices.Contains(l, content)
}

// with is contents with one more; each is there once.
func with(l []string, content string) []string {
	if isIn(l, content) {
		return l
	}
	// In memory of its own: lists are shared.
	return append(slices.Clone(l), content)
}

// bytesOf is contents as bytes.
func bytesOf(l []string) [][]byte {
	all := make([][]byte, len(l))
	for i, content := range l {
		all[i] = []byte(content)
	}
	return all
}

// hasSector tells whether there is such a sector.
func (m *Model) hasSector(at int) bool {
	return m != nil && at >= 0 && at < m.sectors
}

// has tells whether s has sectors, all of which are the model's.
func (m *Model) has(s api.Span) bool {
	return span.May(s) && s.N > 0 && span.End(s) <= m.sectors
}

// hasData tells whether data is sectors, all of which are the model's.
func (m *Model) hasData(at int, data []byte) bool {
	n := len(data) / api.SectorBytes
	return n*api.SectorBytes == len(data) && m.has(api.Span{At: at, N: n})
}

// mayNow is what a sector may have now.
func (m *Model) mayNow(at int) []string {
	if l, is := m.now[at]; is {
		return l
	}
	return []string{blank()}
}

// mayBehind is what a sector may have behind a crash.
func (m *Model) mayBehind(at int) []string {
	if l, is := m.behind[at]; is {
		return l
	}
	return m.mayNow(at)
}

// note notes contents of those sectors of s that are the model's, if the first
// one is.
func (m *Model) note(s api.Span, code api.Errno, content func(i int) string) {
	if !m.hasSector(s.At) {
		return
	}
	one := m.happened(code)
	for i := range min(s.N, m.sectors-s.At) {
		one(s.At+i, content(i))
	}
}

// happened is what is noted of one sector, as a request was answered with a code.
func (m *Model) happened(code api.Errno) func(at int, content string) {
	switch code {
	case api.OK:
		return m.done
	case api.ErrBusy, api.ErrRange, api.ErrArg, api.ErrLong, api.ErrClosed:
		return func(int, string) {}
	}
	return m.perhaps
}

// done notes a content that a sector has from now on.
func (m *Model) done(at int, content string) {
	m.behind[at] = with(m.mayBehind(at), content)
	m.now[at] = []string{content}
}

// perhaps notes a content that a sector may have from now on.
func (m *Model) perhaps(at int, content string) {
	m.behind[at] = with(m.mayBehind(at), content)
	m.now[at] = with(m.mayNow(at), content)
}
