package victim_test

import (
	"math"
	"slices"
	"testing"

	"thatch/api"
	"thatch/victim"
)

func choice(zone, live, bands, age int) api.Choice {
	return api.Choice{Zone: zone, Live: live, Bands: bands, Age: age}
}

const (
	fifo   = api.PolicyFifo
	greedy = api.PolicyGreedy
)

// P19.1: what is no policy, ahead of what is no choice.
func TestNoPolicy(t *testing.T) {
	a, b := choice(2, 3, 1, 0), choice(3, 4, 1, 1)
	for _, policy := range noPolicies() {
		if is, e := victim.Ahead(policy, a, b); is || e != api.ErrArg {
			t.Errorf("policy %d: Ahead %t %d", policy, is, e)
		}
		for _, l := range [][]api.Choice{nil, {}, {a}, {a, b}} {
			if got, e := victim.Order(policy, l); len(got) > 0 || e != api.ErrArg {
				t.Errorf("policy %d: Order %v %d", policy, got, e)
			}
			if got, e := victim.Pick(policy, l); got != (api.Choice{}) || e != api.ErrArg {
				t.Errorf("policy %d: Pick %v %d", policy, got, e)
			}
		}
	}
}

// P19.1: the keys of each policy, and which one counts more.
func TestAhead(t *testing.T) {
	for _, c := range []struct {
		a, b         api.Choice
		fifo, greedy bool
	}{
		{choice(2, 3, 1, 0), choice(2, 3, 1, 0), false, false},
		{choice(9, 9, 9, 0), choice(2, 3, 1, 1), true, false},
		{choice(2, 3, 1, 1), choice(9, 9, 9, 0), false, true},
		{choice(9, 3, 9, 0), choice(2, 3, 1, 1), true, true},
		{choice(2, 3, 1, 1), choice(9, 3, 9, 0), false, false},
		{choice(2, 3, 9, 1), choice(3, 3, 1, 1), true, true},
		{choice(3, 3, 1, 1), choice(2, 3, 9, 1), false, false},
		{choice(2, 4, 1, 1), choice(3, 3, 1, 1), true, false},
		{choice(3, 3, 1, 1), choice(2, 4, 1, 1), false, true},
		// How many bands there are does not count.
		{choice(2, 3, 1, 0), choice(2, 3, 2, 0), false, false},
		{choice(2, 3, 2, 0), choice(2, 3, 1, 0), false, false},
		// Nothing is reckoned by which the greatest numbers would turn round.
		{choice(0, 0, 0, math.MinInt), choice(0, 0, 0, math.MaxInt), true, true},
		{choice(0, 0, 0, math.MaxInt), choice(0, 0, 0, math.MinInt), false, false},
		{choice(0, math.MinInt, 0, 0), choice(0, math.MaxInt, 0, 0), false, true},
		{choice(math.MinInt, 0, 0, 0), choice(math.MaxInt, 0, 0, 0), true, true},
		{choice(math.MaxInt, 0, 0, 0), choice(math.MinInt, 0, 0, 0), false, false},
		{choice(0, -1, 0, 0), choice(0, 0, 0, -1), false, true},
	} {
		if is, e := victim.Ahead(fifo, c.a, c.b); is != c.fifo || e != api.OK {
			t.Errorf("%v, %v, fifo: %t %d", c.a, c.b, is, e)
		}
		if is, e := victim.Ahead(greedy, c.a, c.b); is != c.greedy || e != api.OK {
			t.Errorf("%v, %v, greedy: %t %d", c.a, c.b, is, e)
		}
	}
}

// allChoices are those of which each number is 0 to 2.
func allChoices() []api.Choice {
	var l []api.Choice
	for i := range 81 {
		l = append(l, choice(i%3, i/3%3, i/9%3, i/27))
	}
	return l
}

// P19.1: each choice against each, as the words say.
func TestAheadAll(t *testing.T) {
	for _, policy := range []int{fifo, greedy} {
		for _, a := range allChoices() {
			for _, b := range allChoices() {
				if is, e := victim.Ahead(policy, a, b); is != plainAhead(policy, a, b) || e != api.OK {
					t.Errorf("policy %d: %v, %v: %t %d", policy, a, b, is, e)
				}
			}
		}
	}
}

// wantOrder wants choices in their order, and the first of them picked.
func wantOrder(t *testing.T, policy int, l []api.Choice) {
	t.Helper()
	was, want := slices.Clone(l), plainOrder(policy, l)
	got, e := victim.Order(policy, l)
	if e != api.OK || !slices.Equal(got, want) {
		t.Errorf("policy %d: %v: %v %d, not %v", policy, l, got, e, want)
	}
	first, code := api.Choice{}, api.ErrNone
	if len(want) > 0 {
		first, code = want[0], api.OK
	}
	if got, e := victim.Pick(policy, l); got != first || e != code {
		t.Errorf("policy %d: %v: %v %d is picked, not %v %d", policy, l, got, e, first, code)
	}
	if !slices.Equal(l, was) {
		t.Errorf("policy %d: %v was handed in, and is %v", policy, was, l)
	}
}

// P19.1: no choices, one, equal ones, those that were in order, or turned about.
func TestOrder(t *testing.T) {
	for _, policy := range []int{fifo, greedy} {
		wantOrder(t, policy, nil)
		wantOrder(t, policy, []api.Choice{})
		wantOrder(t, policy, []api.Choice{{}})
		wantOrder(t, policy, []api.Choice{choice(5, 7, 2, 0), choice(3, 8, 2, 1), choice(7, 0, 0, 2)})
		// But for the bands, which do not count, all are equal.
		wantOrder(t, policy, []api.Choice{choice(2, 1, 9, 4), choice(2, 1, 3, 4), choice(2, 1, 5, 4), choice(2, 1, 1, 4)})
		l := plainOrder(policy, allChoices())
		wantOrder(t, policy, l)
		slices.Reverse(l)
		wantOrder(t, policy, l)
		wantOrder(t, policy, slices.Concat(l, l))
	}
	if got, e := victim.Order(greedy, []api.Choice{choice(5, 7, 2, 0), choice(3, 7, 2, 1), choice(7, 0, 0, 2)}); e != api.OK ||
		!slices.Equal(got, []api.Choice{choice(7, 0, 0, 2), choice(5, 7, 2, 0), choice(3, 7, 2, 1)}) {
		t.Error("greedy", got, e)
	}
}

// P19.1: lists that look like chance, with many equal ones; long ones too.
func TestOrderAny(t *testing.T) {
	for seed := range 600 {
		number := numbers(uint64(seed))
		l := make([]api.Choice, number(60))
		few := 1 + number(5)
		for i := range l {
			l[i] = choice(number(few)-1, number(few)-1, i, number(few)-1)
		}
		wantOrder(t, 1+number(2), l)
	}
}

// P19.4: what is picked is among the choices, and nothing comes ahead of it;
// each order has the same choices.
func TestPicked(t *testing.T) {
	for seed := range 300 {
		number := numbers(uint64(seed))
		l := make([]api.Choice, 1+number(40))
		for i := range l {
			l[i] = choice(number(9), number(5), i, number(7))
		}
		for _, policy := range []int{fifo, greedy} {
			picked, e := victim.Pick(policy, l)
			if e != api.OK || !slices.Contains(l, picked) {
				t.Fatalf("%v is picked of %v, %d", picked, l, e)
			}
			for _, c := range l {
				if is, e := victim.Ahead(policy, c, picked); is || e != api.OK {
					t.Errorf("%v comes ahead of %v, %d", c, picked, e)
				}
			}
			ordered, e := victim.Order(policy, l)
			if e != api.OK || len(ordered) != len(l) {
				t.Fatal(ordered, e)
			}
			// The bands tell them apart.
			for _, c := range l {
				if !slices.Contains(ordered, c) {
					t.Errorf("%v is not in %v", c, ordered)
				}
			}
			for i := range len(ordered) - 1 {
				if is, _ := victim.Ahead(policy, ordered[i+1], ordered[i]); is {
					t.Errorf("%v comes ahead of %v", ordered[i+1], ordered[i])
				}
			}
		}
	}
}

// R3: what is handed in is neither changed nor kept, nor is the room behind it;
// each answer is new, its spare room too.
func TestNothingShared(t *testing.T) {
	room := []api.Choice{choice(5, 7, 2, 2), choice(3, 8, 2, 1), choice(7, 0, 0, 0), choice(8, 1, 1, 1)}
	extents := []api.Extent{put(0, 4, 5, 1), put(10, 8, 3, 0), put(31, 3, 5, 5), put(40, 1, 2, 0)}
	order := []int{5, 3, 7, 2}
	wasRoom, wasExtents, wasOrder := slices.Clone(room), slices.Clone(extents), slices.Clone(order)
	for range 2 {
		ordered, e := victim.Order(fifo, room[:3])
		if e != api.OK || !slices.Equal(ordered, []api.Choice{wasRoom[2], wasRoom[1], wasRoom[0]}) {
			t.Error("Order", ordered, e)
		}
		clear(ordered[:cap(ordered)])
		choices, e := victim.Choices(small, extents[:3], order[:2])
		if e != api.OK || !slices.Equal(choices, []api.Choice{choice(5, 7, 2, 0), choice(3, 8, 2, 1)}) {
			t.Error("Choices", choices, e)
		}
		clear(choices[:cap(choices)])
		crowd, e := victim.Crowd(small, extents[:3], 2)
		if e != api.OK || !slices.Equal(crowd, []int{0, 1}) {
			t.Error("Crowd", crowd, e)
		}
		clear(crowd[:cap(crowd)])
		if !slices.Equal(room, wasRoom) || !slices.Equal(extents, wasExtents) || !slices.Equal(order, wasOrder) {
			t.Fatal("what was handed in is changed")
		}
	}
}
