package stroke_test

import (
	"math"
	"slices"
	"testing"

	"slatewall/api"
	"slatewall/stroke"
)

// P5.1: Thin of strokes by hand.
func TestThin(t *testing.T) {
	for i, x := range []struct {
		s         api.Stroke
		tolerance int
		want      []int
	}{
		{example(), 1000, []int{0, 4}},
		{of(7, 9), 0, []int{0}},
		{of(7, 9), 1000, []int{0}},
		{of(7, 9, 7, 9), 0, []int{0, 1}},
		{of(7, 9, 7, 9, 7, 9), 0, []int{0, 2}},
		{of(7, 9, 3000, 9), 1000, []int{0, 1}},
		{repeated(200), 0, []int{0, 199}},
		// On a straight line, to and fro on it, and beyond its ends.
		{of(0, 0, 10, 10, 20, 20, 30, 30), 0, []int{0, 3}},
		{of(0, 0, 30, 30, 20, 20, 40, 40), 0, []int{0, 3}},
		{of(0, 0, 20, 0, 0, 0), 19, []int{0, 1, 2}},
		{of(0, 0, 20, 0, 0, 0), 20, []int{0, 2}},
		{of(20, 0, 0, 0, 60, 0, 30, 0), 29, []int{0, 2, 3}},
		// Going on as far as possible is not best, and neither is leaving out as little.
		{of(0, 0, 100, 0, 100, 100, 0, 100), 10, []int{0, 1, 2, 3}},
		{of(0, 0, 40, 0, 50, 9, 60, 0, 100, 0), 9, []int{0, 4}},
		{of(0, 0, 40, 0, 50, 9, 60, 0, 100, 0), 8, []int{0, 2, 4}},
		{of(0, 0, 40, 0, 50, 9, 60, 0, 100, 0), 7, []int{0, 1, 2, 3, 4}},
		// Several lists with the fewest indices: the first one.
		{of(0, 0, 100, 0, 100, 1, 100, 100), 1, []int{0, 1, 3}},
		{of(0, 0, 100, 1, 100, 0, 100, 100), 1, []int{0, 1, 3}},
		{of(0, 0, 50, 0, 100, 0, 100, 0, 100, 0, 100, 50, 100, 100), 0, []int{0, 2, 6}},
		{of(0, 0, 100, 0, 100, 1, 100, 100, 99, 100, 0, 100), 1, []int{0, 1, 3, 5}},
	} {
		if l, e := stroke.Thin(x.s, x.tolerance); e != api.OK || !slices.Equal(l, x.want) {
			t.Errorf("%d: Thin(%.200s, %d) = %v, %d; want %v", i, text(x.s), x.tolerance, l, e, x.want)
		}
	}
}

// P5.1: the limits of the tolerance.
func TestThinLimits(t *testing.T) {
	s := of(0, 0, 50, 1000, 100, 0)
	for _, tolerance := range []int{math.MinInt, -1, 1001, math.MaxInt} {
		for _, x := range []api.Stroke{s, of(7, 9), repeated(200)} {
			if l, e := stroke.Thin(x, tolerance); e != api.ErrStroke || len(l) != 0 {
				t.Errorf("the tolerance %d: %v, %d", tolerance, l, e)
			}
		}
	}
	for tolerance, want := range map[int][]int{0: {0, 1, 2}, 999: {0, 1, 2}, 1000: {0, 2}} {
		if l, e := stroke.Thin(s, tolerance); e != api.OK || !slices.Equal(l, want) {
			t.Errorf("the tolerance %d: %v, %d", tolerance, l, e)
		}
	}
}

// P5.1, P5.2: Thin of strokes with few dots, beside all lists that there are.
func TestThinFew(t *testing.T) {
	r := source()
	ties := 0
	for range 5000 {
		s, tolerance := anyStroke(r, 1+r.Intn(8)), anyTolerance(r)
		want, n := plainThin(s, tolerance)
		if n > 1 {
			ties++
		}
		if l, e := stroke.Thin(s, tolerance); e != api.OK || !slices.Equal(l, want) {
			t.Fatalf("Thin(%s, %d) = %v, %d; want %v", text(s), tolerance, l, e, want)
		}
	}
	if ties < 100 {
		t.Errorf("only %d strokes had several lists", ties)
	}
}

// P5.1, P5.2: Thin of all strokes with five dots on a square of two by two places.
func TestThinSmall(t *testing.T) {
	for code := range 1024 {
		var l []int
		for i := range 5 {
			l = append(l, 10*(code>>(2*i)&1), 10*(code>>(2*i+1)&1))
		}
		s := of(l...)
		for _, tolerance := range []int{0, 8, 10} {
			want, _ := plainThin(s, tolerance)
			if l, e := stroke.Thin(s, tolerance); e != api.OK || !slices.Equal(l, want) {
				t.Fatalf("Thin(%s, %d) = %v, %d; want %v", text(s), tolerance, l, e, want)
			}
		}
	}
}

// P5.1: Kept of all sets of indices of a stroke.
func TestKept(t *testing.T) {
	s := example()
	for set := 1; set < 32; set++ {
		want := api.Stroke{Person: 2, Number: 7}
		var kept []int
		for i, d := range s.Dots {
			if set>>i&1 == 1 {
				kept, want.Dots = append(kept, i), append(want.Dots, d)
			}
		}
		k, e := stroke.Kept(s, kept)
		wantStroke(t, "Kept", k, e, want)
		slices.Reverse(kept)
		if k, e = stroke.Kept(s, kept); len(kept) > 1 {
			wantRefused(t, "Kept, descending", k, e)
		}
	}
	for _, kept := range [][]int{nil, {}, {-1}, {5}, {-1, 0}, {0, 5}, {4, 5}, {0, 0}, {4, 4}, {0, 2, 2}, {1, 0}, {0, 2, 1}, {0, 2, 1, 3}, {0, 3, 2, 4}, {0, 1, 2, 3, 4, 5}, {0, 1, 2, 3, 4, 4}, {0, -1}, {math.MinInt}, {math.MaxInt}, {0, math.MaxInt}, {0, math.MinInt}, {math.MaxInt, math.MinInt}} {
		k, e := stroke.Kept(s, kept)
		wantRefused(t, "Kept, not of dots", k, e)
	}
	k, e := stroke.Kept(of(7, 9), []int{0})
	wantStroke(t, "Kept of one dot", k, e, of(7, 9))
	k, e = stroke.Kept(of(7, 9), []int{1})
	wantRefused(t, "Kept of one dot", k, e)
	k, e = stroke.Kept(repeated(200), make([]int, 100000))
	wantRefused(t, "Kept of many", k, e)
	all := make([]int, 200)
	for i := range all {
		all[i] = i
	}
	k, e = stroke.Kept(repeated(200), all)
	wantStroke(t, "Kept of all", k, e, repeated(200))
	k, e = stroke.Kept(repeated(200), []int{199})
	wantStroke(t, "Kept of the last", k, e, repeated(1))
	k, e = stroke.Kept(repeated(200), []int{199, 200})
	wantRefused(t, "Kept behind the last", k, e)
}

// P5.1: Kept of what Thin says, of any strokes.
func TestKeptOfThin(t *testing.T) {
	r := source()
	for range 500 {
		s := anyStroke(r, 1+r.Intn(60))
		l, _ := stroke.Thin(s, anyTolerance(r))
		want := api.Stroke{Person: s.Person, Number: s.Number}
		for _, i := range l {
			want.Dots = append(want.Dots, s.Dots[i])
		}
		k, e := stroke.Kept(s, l)
		wantStroke(t, "Kept of Thin", k, e, want)
		if !stroke.Valid(k) {
			t.Errorf("%s is not valid", text(k))
		}
	}
}
