package stroke_test

import (
	"math"
	"testing"

	"slatewall/api"
	"slatewall/stroke"
)

// wantLeast checks that p is near a and b with a tolerance, and with no lesser one, in both directions of the line.
func wantLeast(t *testing.T, a, b, p api.Place, least int) {
	t.Helper()
	if !stroke.Near(a, b, p, least) || !stroke.Near(b, a, p, least) {
		t.Errorf("%v is not near %v and %v with %d", p, a, b, least)
	}
	if least > 0 && (stroke.Near(a, b, p, least-1) || stroke.Near(b, a, p, least-1)) {
		t.Errorf("%v is near %v and %v with %d", p, a, b, least-1)
	}
}

// P5.1: places that are just near, and just not.
func TestNear(t *testing.T) {
	for _, x := range []struct {
		a, b, p api.Place
		least   int
	}{
		// On the line, and at its ends.
		{at(0, 0), at(100, 0), at(50, 0), 0},
		{at(0, 0), at(100, 0), at(0, 0), 0},
		{at(10, 20), at(40, 60), at(25, 40), 0},
		{at(0, 4095), at(4095, 0), at(2000, 2095), 0},
		// Beside it: along the axes, aslant with a whole distance, and with one that is none.
		{at(100, 100), at(200, 100), at(150, 103), 3},
		{at(100, 100), at(200, 100), at(150, 97), 3},
		{at(100, 100), at(100, 200), at(103, 150), 3},
		{at(100, 100), at(100, 200), at(97, 150), 3},
		{at(100, 100), at(200, 100), at(100, 104), 4},
		{at(100, 100), at(200, 100), at(200, 104), 4},
		{at(0, 0), at(40, 30), at(13, 16), 5},
		{at(100, 100), at(200, 200), at(151, 150), 1},
		{at(100, 100), at(200, 200), at(110, 100), 8},
		{at(0, 0), at(3, 1), at(2, 2), 2},
		{at(3095, 0), at(3095, 4095), at(4095, 2000), 1000},
		// Beyond its ends: straight on, and aslant.
		{at(100, 100), at(200, 100), at(207, 100), 7},
		{at(100, 100), at(200, 100), at(93, 100), 7},
		{at(100, 100), at(200, 100), at(203, 104), 5},
		{at(100, 100), at(200, 100), at(97, 96), 5},
		{at(100, 100), at(200, 100), at(203, 105), 6},
		{at(0, 0), at(30, 40), at(36, 48), 10},
		{at(10, 10), at(20, 20), at(0, 0), 15},
		// Beside an end, but not beyond the line that is upright on it.
		{at(0, 0), at(30, 40), at(28, 54), 15},
		{at(100, 100), at(200, 200), at(203, 197), 5},
		// Both ends are one place.
		{at(5, 5), at(5, 5), at(5, 5), 0},
		{at(5, 5), at(5, 5), at(8, 9), 5},
		{at(5, 5), at(5, 5), at(2, 1), 5},
		{at(5, 5), at(5, 5), at(8, 10), 6},
		{at(0, 0), at(0, 0), at(600, 800), 1000},
		{at(4095, 4095), at(4095, 4095), at(4095, 3095), 1000},
	} {
		wantLeast(t, x.a, x.b, x.p, x.least)
	}
	for _, p := range []api.Place{at(601, 800), at(600, 801), at(1001, 0), at(4095, 4095)} {
		if stroke.Near(at(0, 0), at(0, 0), p, 1000) {
			t.Errorf("%v is near the corner", p)
		}
	}
}

// P5.1: the limits of the tolerance and of the places.
func TestNearLimits(t *testing.T) {
	a, b, p := at(0, 0), at(4095, 4095), at(2000, 2000)
	for tolerance, want := range map[int]bool{math.MinInt: false, -1: false, 0: true, 1000: true, 1001: false, math.MaxInt: false} {
		if stroke.Near(a, b, p, tolerance) != want || stroke.Near(p, p, p, tolerance) != want || stroke.Within(of(0, 0, 4095, 4095), p, tolerance) != want {
			t.Errorf("the tolerance %d: not %t", tolerance, want)
		}
	}
	for _, n := range []int{-1, 4096, math.MinInt, math.MaxInt} {
		for _, outside := range []api.Place{at(n, 0), at(0, n), at(n, 4095), at(4095, n), at(n, n)} {
			inside := at(max(0, min(outside.X, 4095)), max(0, min(outside.Y, 4095)))
			if !stroke.Near(inside, inside, inside, 1000) {
				t.Errorf("%v is not near itself", inside)
			}
			if stroke.Near(outside, inside, inside, 1000) || stroke.Near(inside, outside, inside, 1000) || stroke.Near(inside, inside, outside, 1000) || stroke.Near(outside, outside, outside, 1000) {
				t.Errorf("Near takes %v", outside)
			}
			if stroke.Within(of(inside.X, inside.Y), outside, 1000) || !stroke.Within(of(inside.X, inside.Y), inside, 1000) {
				t.Errorf("Within takes %v, or not %v", outside, inside)
			}
		}
	}
}

// P5.1: Near of all places of a small square, with all small tolerances.
func TestNearSmall(t *testing.T) {
	const side = 6
	place := func(i int) api.Place { return at(1000+i%side, 2000+i/side) }
	for i := range side * side {
		for k := range side * side {
			for n := range side * side {
				for tolerance := range side {
					a, b, p := place(i), place(k), place(n)
					if got := stroke.Near(a, b, p, tolerance); got != plainNear(a, b, p, tolerance) {
						t.Fatalf("Near(%v, %v, %v, %d) = %t", a, b, p, tolerance, got)
					}
				}
			}
		}
	}
}

// P5.1: Near of any places: with the least tolerance that is enough, and one less.
func TestNearAny(t *testing.T) {
	r := source()
	for range 10000 {
		reach := 1 + r.Intn(4095)
		next := func(from api.Place) api.Place {
			return at(onto(from.X+r.Intn(2*reach+1)-reach), onto(from.Y+r.Intn(2*reach+1)-reach))
		}
		a := at(r.Intn(4096), r.Intn(4096))
		b := next(a)
		p := next(b)
		low, high := -1, 1001
		for high-low > 1 {
			if middle := (low + high) / 2; plainNear(a, b, p, middle) {
				high = middle
			} else {
				low = middle
			}
		}
		if low >= 0 && stroke.Near(a, b, p, low) || high <= 1000 && !stroke.Near(a, b, p, high) {
			t.Fatalf("Near(%v, %v, %v) is not true from %d on", a, b, p, high)
		}
	}
}

// P5.1: Within of strokes by hand.
func TestWithin(t *testing.T) {
	long := repeated(200)
	for i := range long.Dots {
		long.Dots[i].X, long.Dots[i].Y = 20*i, i%2
	}
	for i, x := range []struct {
		s         api.Stroke
		p         api.Place
		tolerance int
		want      bool
	}{
		{example(), at(50, 2), 0, true},
		{example(), at(25, 1), 0, true},
		{example(), at(25, 3), 2, true},
		{example(), at(25, 4), 2, false},
		{example(), at(75, 1), 0, true},
		{example(), at(103, 30), 3, true},
		{example(), at(104, 30), 3, false},
		{example(), at(101, 100), 0, true},
		{example(), at(104, 104), 5, true},
		{example(), at(104, 104), 4, false},
		// The way back from the last dot to the first one is no piece.
		{example(), at(50, 50), 30, false},
		{of(7, 9), at(7, 9), 0, true},
		{of(7, 9), at(7, 10), 0, false},
		{of(7, 9), at(10, 13), 5, true},
		{of(7, 9), at(10, 13), 4, false},
		{of(7, 9, 7, 9), at(10, 13), 5, true},
		{of(7, 9, 7, 9), at(10, 13), 4, false},
		{repeated(200), at(600, 800), 1000, true},
		{repeated(200), at(600, 800), 999, false},
		{long, at(0, 0), 0, true},
		{long, at(3980, 1), 0, true},
		{long, at(3970, 11), 10, false},
		{long, at(3970, 10), 10, true},
	} {
		if stroke.Within(x.s, x.p, x.tolerance) != x.want {
			t.Errorf("%d: Within is not %t", i, x.want)
		}
	}
}

// P5.1: Within of any strokes, piece by piece.
func TestWithinAny(t *testing.T) {
	r := source()
	found := 0
	for range 5000 {
		s := anyStroke(r, 1+r.Intn(12))
		l, tolerance := places(s), anyTolerance(r)
		p := l[r.Intn(len(l))]
		p = at(onto(p.X+r.Intn(2*tolerance+9)-tolerance-4), onto(p.Y+r.Intn(2*tolerance+9)-tolerance-4))
		want := plainNear(l[0], l[0], p, tolerance)
		for i := 1; i < len(l); i++ {
			want = want || plainNear(l[i-1], l[i], p, tolerance)
		}
		if want {
			found++
		}
		if stroke.Within(s, p, tolerance) != want {
			t.Fatalf("Within(%s, %v, %d) is not %t", text(s), p, tolerance, want)
		}
	}
	if found < 1000 || found > 4000 {
		t.Errorf("%d of 5000 are within", found)
	}
}
