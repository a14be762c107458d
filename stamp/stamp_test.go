package stamp_test

import (
	"math"
	"testing"

	"slatewall/api"
	"slatewall/stamp"
)

// P6.1: Valid at the limits of each number, and beyond them.
func TestValid(t *testing.T) {
	limits := []struct {
		least, greatest int
		stamp           func(int) api.Stamp
	}{
		{0, 1000000, func(n int) api.Stamp { return at(n, 7, 8) }},
		{0, 39, func(n int) api.Stamp { return at(6, n, 8) }},
		{1, 999, func(n int) api.Stamp { return at(6, 7, n) }},
	}
	for _, l := range limits {
		for _, n := range []int{l.least, l.least + 1, l.greatest - 1, l.greatest, l.least - 1, l.greatest + 1, math.MinInt, math.MaxInt} {
			if ok := stamp.Valid(l.stamp(n)); ok != (l.least <= n && n <= l.greatest) {
				t.Errorf("Valid(%v) = %t", l.stamp(n), ok)
			}
		}
	}
	if !stamp.Valid(at(0, 0, 1)) || !stamp.Valid(at(1000000, 39, 999)) || stamp.Valid(api.Stamp{}) {
		t.Error("all numbers at their limits")
	}
}

// P6.1: Before goes by At, then by Person, then by Number, for stamps that are not valid too.
func TestBefore(t *testing.T) {
	order := []api.Stamp{
		at(math.MinInt, math.MaxInt, math.MaxInt), at(-1, 3, 4), at(0, 39, 999), at(5, math.MinInt, 9), at(5, 0, 999),
		at(5, 1, math.MinInt), at(5, 1, 2), at(5, 1, 9), at(5, 1, math.MaxInt), at(5, 2, 1), at(5, math.MaxInt, 0), at(6, 0, 1),
		at(1000000, 0, 1), at(math.MaxInt, 0, 0), at(math.MaxInt, 0, 1), at(math.MaxInt, math.MaxInt, math.MinInt),
	}
	for i, a := range order {
		for k, b := range order {
			if stamp.Before(a, b) != (i < k) {
				t.Errorf("Before(%v, %v) = %t", a, b, i >= k)
			}
		}
	}
}

// P6.1: Sorted of none, of one, of the same stamp several times, and of stamps that are not valid.
func TestSorted(t *testing.T) {
	for _, c := range []struct{ l, want []api.Stamp }{
		{nil, nil},
		{[]api.Stamp{}, nil},
		{[]api.Stamp{at(5, 1, 2)}, []api.Stamp{at(5, 1, 2)}},
		{[]api.Stamp{at(5, 1, 2), at(5, 1, 2)}, []api.Stamp{at(5, 1, 2), at(5, 1, 2)}},
		{[]api.Stamp{at(5, 2, 1), at(5, 1, 9), at(4, 30, 900), at(5, 1, 2), at(5, 2, 1)}, []api.Stamp{at(4, 30, 900), at(5, 1, 2), at(5, 1, 9), at(5, 2, 1), at(5, 2, 1)}},
		{[]api.Stamp{at(1000000, 0, 1), at(0, 39, 999), at(1000000, 0, 1), at(0, 39, 998), at(0, 39, 999)}, []api.Stamp{at(0, 39, 998), at(0, 39, 999), at(0, 39, 999), at(1000000, 0, 1), at(1000000, 0, 1)}},
		{[]api.Stamp{at(5, -1, 0), {}, at(math.MaxInt, 50, -7), at(5, -2, 0), at(-5, 3, 2000)}, []api.Stamp{at(-5, 3, 2000), {}, at(5, -2, 0), at(5, -1, 0), at(math.MaxInt, 50, -7)}},
	} {
		if got := stamp.Sorted(c.l); !equal(got, c.want) {
			t.Errorf("Sorted(%v) = %v; want %v", c.l, got, c.want)
		}
	}
}

// P6.1: Sorted of many stamps ends soon, whether they were in order, the other way around, or all the same.
func TestSortedMany(t *testing.T) {
	const many = 300000
	var up, down, same []api.Stamp
	for i := range many {
		up = append(up, at(i, 3, 4))
		down = append(down, at(many-1-i, 3, 4))
		same = append(same, at(7, 3, 4))
	}
	if !equal(stamp.Sorted(up), up) || !equal(stamp.Sorted(down), up) || !equal(stamp.Sorted(same), same) {
		t.Error("many stamps")
	}
}

// P6.1: Next at the chapter's example, with none seen, with seen ones earlier, at the same time and later, and at the limits.
func TestNext(t *testing.T) {
	for _, c := range []struct {
		seen        []api.Stamp
		clock, want int
	}{
		{[]api.Stamp{at(50, 3, 2)}, 20, 51},
		{nil, 20, 20},
		{nil, 0, 0},
		{nil, 1000000, 1000000},
		{[]api.Stamp{at(0, 3, 2)}, 0, 1},
		{[]api.Stamp{at(19, 3, 2)}, 20, 20},
		{[]api.Stamp{at(20, 3, 2)}, 20, 21},
		{[]api.Stamp{at(21, 3, 2)}, 20, 22},
		{[]api.Stamp{at(9, 3, 2), at(50, 3, 2), at(9, 4, 1)}, 20, 51},
		{[]api.Stamp{at(9, 3, 2), at(50, 3, 2), at(9, 4, 1)}, 51, 51},
		{[]api.Stamp{at(50, 3, 2), at(50, 3, 2), at(50, 1, 7)}, 49, 51},
		{[]api.Stamp{at(50, 3, 2)}, 900, 900},
		{[]api.Stamp{at(999999, 3, 2)}, 20, 1000000},
		{[]api.Stamp{at(999999, 3, 2)}, 1000000, 1000000},
		// Only the time of the stamp counts, whatever the clock shows.
		{[]api.Stamp{at(50, 3, 2)}, -1, 51},
		{[]api.Stamp{at(50, 3, 2)}, math.MinInt, 51},
	} {
		wantNext(t, c.seen, 1, 7, c.clock, at(c.want, 1, 7), api.OK)
	}
	wantNext(t, []api.Stamp{at(5, 39, 999)}, 0, 1, 5, at(6, 0, 1), api.OK)
	wantNext(t, []api.Stamp{at(5, 0, 1)}, 39, 999, 5, at(6, 39, 999), api.OK)
}

// P6.1: Next refuses what was seen and is not valid, wherever it is, and a new stamp that would not be valid.
func TestNoNext(t *testing.T) {
	none := api.Stamp{}
	for _, bad := range []api.Stamp{{}, at(-1, 1, 1), at(1000001, 1, 1), at(math.MaxInt, 1, 1), at(math.MinInt, 1, 1), at(5, -1, 1), at(5, 40, 1), at(5, 1, 0), at(5, 1, 1000)} {
		for i := range 3 {
			seen := []api.Stamp{at(5, 1, 1), at(7, 1, 1), at(6, 1, 1)}
			seen[i] = bad
			wantNext(t, seen, 1, 7, 20, none, api.ErrStamp)
		}
	}
	wantNext(t, []api.Stamp{at(1000000, 3, 2)}, 1, 7, 20, none, api.ErrStamp)
	wantNext(t, []api.Stamp{at(5, 3, 2), at(1000000, 3, 2), at(6, 3, 2)}, 1, 7, 1000000, none, api.ErrStamp)
	for _, clock := range []int{-1, 1000001, math.MinInt, math.MaxInt} {
		wantNext(t, nil, 1, 7, clock, none, api.ErrStamp)
	}
	for _, person := range []int{-1, 40, math.MinInt, math.MaxInt} {
		wantNext(t, nil, person, 7, 20, none, api.ErrStamp)
	}
	for _, number := range []int{0, 1000, math.MinInt, math.MaxInt} {
		wantNext(t, nil, 1, number, 20, none, api.ErrStamp)
	}
	wantNext(t, []api.Stamp{at(5, 3, 2)}, 1, 7, 1000001, none, api.ErrStamp)
}

// spare returns a list, in memory with room for more, and all of that memory.
func spare[T any](l []T, filler T) ([]T, []T) {
	all := append([]T(nil), l...)
	for range 5 {
		all = append(all, filler)
	}
	return all[:len(l)], all
}

// P6.1: no call changes its arguments, or writes to their spare capacity, and results share no memory with them.
func TestMemory(t *testing.T) {
	stamps := []api.Stamp{at(5, 2, 1), at(5, 1, 9), at(4, 30, 900), at(5, 1, 2)}
	l, all := spare(stamps, at(-7, -7, -7))
	before := append([]api.Stamp(nil), all...)
	for n := range len(l) + 1 {
		sorted := stamp.Sorted(l[:n])
		sorted = sorted[:cap(sorted)]
		for i := range sorted {
			sorted[i] = api.Stamp{}
		}
		stamp.Next(l[:n], 1, 7, 4)
		if !equal(all, before) {
			t.Fatalf("stamps: %v; before %v", all, before)
		}
	}
	skews, allSkews := spare(append(example(), skew(7, 100, 100)), skew(8, 8, 8))
	meets, allMeets := spare([]api.Meet{meet(1, 108, 2, 100), meet(7, 300, 1, 205), meet(1, 200, 2, 201)}, meet(7, 7, 7, 7))
	skewsBefore, meetsBefore := append([]api.Skew(nil), allSkews...), append([]api.Meet(nil), allMeets...)
	for n := range len(meets) + 1 {
		stamp.Proper(skews, meets[:n])
		tight, _, _ := stamp.Tight(skews, meets[:n])
		tight = tight[:cap(tight)]
		for i := range tight {
			tight[i] = api.Skew{}
		}
		stamp.When(skews, 1, 100)
		stamp.Order(skews, meets[:n], at(110, 1, 1), at(103, 2, 1))
		if !equal(allSkews, skewsBefore) || !equal(allMeets, meetsBefore) {
			t.Fatalf("%v, %v; before %v, %v", allSkews, allMeets, skewsBefore, meetsBefore)
		}
	}
}
