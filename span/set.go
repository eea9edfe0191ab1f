package span

import (
	"cmp"
	"slices"

	"thatch/api"
)

// IsSet tells whether l is a set: no span of it is empty, they rise, and
// between any two a sector is missing.
func IsSet(l []api.Span) bool {
	if len(l) > api.MaxSpans {
		return false
	}
	for i, s := range l {
		if !May(s) || s.N == 0 || i > 0 && s.At <= End(l[i-1]) {
			return false
		}
	}
	return true
}

// Set is the set of all sectors of l's spans.
func Set(l []api.Span) ([]api.Span, api.Errno) {
	for _, s := range l {
		if !May(s) {
			return nil, api.ErrSpan
		}
	}
	if len(l) > api.MaxSpans {
		return nil, api.ErrLong
	}
	rising := slices.Clone(l)
	slices.SortFunc(rising, func(a, b api.Span) int { return cmp.Compare(a.At, b.At) })
	return joined(rising), api.OK
}

// joined is the set of spans that rise, but may be empty, touch, or meet.
func joined(rising []api.Span) []api.Span {
	var set []api.Span
	for _, s := range rising {
		last := len(set) - 1
		switch {
		case s.N == 0:
		case last >= 0 && s.At <= End(set[last]):
			set[last] = around(set[last], s)
		default:
			set = append(set, s)
		}
	}
	return set
}

// around is the span from where the first of both begins to where the last ends.
func around(a, b api.Span) api.Span {
	return between(min(a.At, b.At), max(End(a), End(b)))
}

// limited is l, if it has no more spans than a set may have.
func limited(l []api.Span) ([]api.Span, api.Errno) {
	if len(l) > api.MaxSpans {
		return nil, api.ErrLong
	}
	return l, api.OK
}

// Add is the set with the sectors of s too.
func Add(l []api.Span, s api.Span) ([]api.Span, api.Errno) {
	if !IsSet(l) || !May(s) {
		return nil, api.ErrSpan
	}
	if s.N == 0 {
		return slices.Clone(l), api.OK
	}
	ahead := 0
	for ahead < len(l) && End(l[ahead]) < s.At {
		ahead++
	}
	// What touches s is one span with it, as what meets it is.
	behind := ahead
	for behind < len(l) && l[behind].At <= End(s) {
		s = around(s, l[behind])
		behind++
	}
	return limited(slices.Concat(l[:ahead], []api.Span{s}, l[behind:]))
}

// Drop is the set without the sectors of s.
func Drop(l []api.Span, s api.Span) ([]api.Span, api.Errno) {
	if !IsSet(l) || !May(s) {
		return nil, api.ErrSpan
	}
	var left []api.Span
	for _, t := range l {
		left = append(left, Cut(t, s)...)
	}
	return limited(left)
}

// Both is the sectors that are in both sets.
func Both(a, b []api.Span) ([]api.Span, api.Errno) {
	if !IsSet(a) || !IsSet(b) {
		return nil, api.ErrSpan
	}
	return limited(common(a, b))
}

// common goes through two sets, with a place in each, till the second one has
// come to its end.
func common(a, b []api.Span) []api.Span {
	var l []api.Span
	j := 0
	for _, s := range a {
		for {
			if j == len(b) {
				goto through
			}
			if m := Meet(s, b[j]); m.N > 0 {
				l = append(l, m)
			}
			// One that ends behind s may meet the next one of a too.
			if End(b[j]) > End(s) {
				break
			}
			j++
		}
	}
through:
	return l
}

// Gaps is the sectors of within that are not in the set.
func Gaps(l []api.Span, within api.Span) ([]api.Span, api.Errno) {
	if !IsSet(l) || !May(within) {
		return nil, api.ErrSpan
	}
	var gaps []api.Span
	from := within.At
	for _, s := range l {
		m := Meet(s, within)
		if m.N == 0 {
			continue
		}
		if from < m.At {
			gaps = append(gaps, between(from, m.At))
		}
		from = End(m)
	}
	if from < End(within) {
		gaps = append(gaps, between(from, End(within)))
	}
	return limited(gaps)
}

// Total is how many sectors the spans of a set have.
func Total(l []api.Span) int {
	if !IsSet(l) {
		return 0
	}
	n := 0
	for _, s := range l {
		n += s.N
	}
	return n
}

// Find is the place of the span of a set that has sector at; -1, if none has it.
func Find(l []api.Span, at int) int {
	if !IsSet(l) {
		return -1
	}
	return slices.IndexFunc(l, func(s api.Span) bool { return Has(s, at) })
}
