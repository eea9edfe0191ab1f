package polar

import (
	"cmp"
	"slices"

	"thatch/api"
	"thatch/span"
)

// Cost is what the way from one place on the platter to another costs.
func Cost(a, b complex128, track int) int {
	if !onPlatter(a, track) || !onPlatter(b, track) {
		return 0
	}
	seek := api.SeekCost * distance(real(a), real(b))
	// The platter turns while the head seeks, and only one way round.
	wait := modulo(int(imag(b))-int(imag(a))-seek, track)
	return seek + wait
}

// isGoneTo tells whether the head can go to the beginning of s, and to its end.
func isGoneTo(s api.Span) bool {
	return span.May(s) && s.N > 0 && span.End(s) <= api.MaxPolar
}

// Walk is what reading spans one after the other costs, from a place on, and
// where the head is at last.
func Walk(from complex128, l []api.Span, track int) (int, complex128) {
	if !onPlatter(from, track) {
		return 0, 0
	}
	cost, head := 0, from
	for _, s := range l {
		if !isGoneTo(s) {
			continue
		}
		cost += Cost(head, Place(s.At, track), track) + s.N
		head = Place(span.End(s), track)
	}
	return cost, head
}

// Sweep is l's numbers from head on, rising, then those below it, rising.
func Sweep(head int, l []int) []int {
	swept := slices.Clone(l)
	slices.SortFunc(swept, func(a, b int) int {
		switch {
		case a < head && b >= head:
			return 1
		case a >= head && b < head:
			return -1
		}
		return cmp.Compare(a, b)
	})
	return swept
}
