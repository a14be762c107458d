package plane_test

import (
	"math/big"
	"slices"
	"testing"

	"slatewall/api"
	"slatewall/plane"
)

// wantNoCovered checks that Covered does not take a polygon, or a rectangle.
func wantNoCovered(t *testing.T, l []api.Place, r api.Rect) {
	t.Helper()
	if a, e := plane.Covered(l, r); e != api.ErrPlane || a != (api.Ratio{}) {
		t.Errorf("Covered(%v, %v) = %v, %d", l, r, a, e)
	}
}

// P7.1: the chapter's examples of hulls, and of what they cover.
func TestCoveredExamples(t *testing.T) {
	h, e := plane.Hull(of(0, 0, 2, 0, 1, 1, 2, 2, 0, 2))
	if e != api.OK || !slices.Equal(h, of(0, 0, 2, 0, 2, 2, 0, 2)) {
		t.Errorf("the hull is %v, %d", h, e)
	}
	l := of(0, 0, 2, 0, 0, 2)
	if a, e := plane.Covered(l, rect(0, 0, 1, 1)); e != api.OK || a != (api.Ratio{Num: "1", Den: "1"}) {
		t.Errorf("1 by 1: %v, %d", a, e)
	}
	if a, e := plane.Covered(l, rect(0, 0, 2, 1)); e != api.OK || a != (api.Ratio{Num: "3", Den: "2"}) {
		t.Errorf("2 by 1: %v, %d", a, e)
	}
}

// wantCovered checks what a polygon covers of a rectangle: num divided by den.
func wantCovered(t *testing.T, l []api.Place, r api.Rect, num, den int64) {
	t.Helper()
	if a, e := plane.Covered(l, r); e != api.OK || a != ratio(big.NewRat(num, den)) {
		t.Errorf("Covered(%v, %v) = %v, %d; want %d/%d", l, r, a, e, num, den)
	}
}

// triangle and diamond are polygons of these tests.
func triangle() []api.Place { return of(10, 10, 30, 10, 10, 30) }
func diamond() []api.Place  { return of(50, 40, 60, 50, 50, 60, 40, 50) }

// P7.1: polygons that do not touch the rectangle, are inside of it, or contain it; of one place, or two; and rectangles without width or height.
func TestCovered(t *testing.T) {
	triangle, diamond := triangle(), diamond()
	for _, x := range []struct {
		l    []api.Place
		r    api.Rect
		want int64
	}{
		// Apart along an axis, or aslant; touching along an edge, or in a corner.
		{triangle, rect(0, 0, 9, 99), 0},
		{triangle, rect(31, 0, 9, 99), 0},
		{triangle, rect(0, 0, 99, 9), 0},
		{triangle, rect(0, 31, 99, 9), 0},
		{triangle, rect(0, 0, 0, 0), 0},
		{triangle, rect(21, 21, 9, 9), 0},
		{triangle, rect(20, 20, 9, 9), 0},
		{triangle, rect(5, 5, 5, 99), 0},
		{triangle, rect(5, 5, 99, 5), 0},
		{triangle, rect(30, 0, 9, 99), 0},
		{triangle, rect(5, 5, 5, 5), 0},
		// Inside of the rectangle, wholly or up to its border.
		{triangle, rect(9, 9, 22, 22), 200},
		{triangle, rect(10, 10, 20, 20), 200},
		{triangle, board(), 200},
		{diamond, rect(40, 40, 20, 20), 200},
		// Around the rectangle.
		{triangle, rect(11, 11, 4, 3), 12},
		{triangle, rect(10, 10, 10, 10), 100},
		{diamond, rect(45, 45, 10, 10), 100},
		{of(0, 0, 4095, 0, 4095, 4095, 0, 4095), board(), 4095 * 4095},
		{of(0, 0, 4095, 0, 4095, 4095, 0, 4095), rect(17, 4000, 1000, 95), 95000},
		// One place, or a line, along an axis or aslant.
		{of(15, 15), rect(10, 10, 20, 20), 0},
		{of(15, 15), rect(15, 15, 0, 0), 0},
		{of(15, 5, 15, 95), rect(10, 10, 20, 20), 0},
		{of(5, 15, 95, 15), rect(10, 10, 20, 20), 0},
		{of(0, 0, 97, 61), rect(10, 10, 20, 20), 0},
		{of(97, 0, 0, 61), rect(10, 10, 20, 20), 0},
		// Without width, without height, and without both.
		{triangle, rect(15, 0, 0, 99), 0},
		{triangle, rect(0, 15, 99, 0), 0},
		{triangle, rect(12, 12, 0, 0), 0},
		{diamond, rect(50, 40, 0, 20), 0},
		{diamond, rect(40, 53, 20, 0), 0},
	} {
		wantCovered(t, x.l, x.r, x.want, 1)
	}
}

// P7.1: polygons of which the rectangle has a part.
func TestCoveredInPart(t *testing.T) {
	triangle, diamond, thin := triangle(), diamond(), of(0, 0, 4095, 4094, 4094, 4094)
	for _, x := range []struct {
		l        []api.Place
		r        api.Rect
		num, den int64
	}{
		// Cut along X, along Y, at a corner, at two, at all four.
		{triangle, rect(10, 10, 20, 10), 150, 1},
		{triangle, rect(10, 10, 10, 20), 150, 1},
		{triangle, rect(10, 20, 20, 10), 50, 1},
		{triangle, rect(15, 15, 10, 10), 50, 1},
		{triangle, rect(18, 18, 5, 5), 8, 1},
		{triangle, rect(19, 20, 5, 5), 1, 2},
		{triangle, rect(20, 19, 5, 5), 1, 2},
		{diamond, rect(42, 42, 16, 16), 184, 1},
		{diamond, rect(45, 42, 10, 16), 142, 1},
		{diamond, rect(50, 40, 99, 99), 100, 1},
		{diamond, rect(0, 50, 99, 99), 100, 1},
		{diamond, rect(50, 50, 7, 1), 7, 1},
		{diamond, rect(50, 52, 10, 1), 15, 2},
		{of(0, 0, 3, 1, 0, 1), rect(0, 0, 1, 1), 5, 6},
		{of(0, 0, 3, 1, 0, 1), rect(1, 0, 1, 1), 1, 2},
		{of(0, 0, 3, 1, 0, 1), rect(2, 0, 1, 1), 1, 6},
		{of(0, 0, 7, 2, 0, 2), rect(0, 1, 4, 1), 111, 28},
		{thin, board(), 2047, 1},
		{thin, rect(0, 0, 1, 1), 1, 8190},
		{thin, rect(1, 0, 1, 1), 1, 33529860},
		{thin, rect(2, 0, 1, 1), 0, 1},
	} {
		wantCovered(t, x.l, x.r, x.num, x.den)
	}
}

// P7.1: lists that are no hulls: the other way around, from another place on, with a place too many, not convex, crossing itself, and twice around.
func TestNoPolygons(t *testing.T) {
	for _, l := range [][]api.Place{
		of(0, 0, 0, 2, 2, 0), of(0, 0, 0, 2, 2, 2, 2, 0),
		of(2, 0, 0, 2, 0, 0), of(0, 2, 0, 0, 2, 0), of(2, 0, 2, 2, 0, 2, 0, 0), of(2, 2, 0, 2, 0, 0, 2, 0), of(0, 2, 0, 0, 2, 0, 2, 2),
		of(2, 2, 0, 0), of(3, 1, 2, 1), of(2, 2, 3, 1),
		of(5, 5, 5, 5), of(5, 5, 5, 5, 5, 5), of(0, 0, 2, 2, 2, 2), of(0, 0, 0, 0, 2, 2), of(0, 0, 2, 2, 0, 0), of(0, 0, 2, 0, 0, 2, 0, 0), of(0, 0, 2, 0, 2, 0, 0, 2),
		of(0, 0, 1, 1, 2, 2), of(0, 0, 2, 2, 1, 1), of(0, 0, 1, 0, 2, 0, 0, 2), of(0, 0, 2, 0, 1, 1, 0, 2), of(0, 0, 2, 0, 0, 2, 0, 1),
		of(0, 0, 4, 0, 4, 4, 3, 1), of(0, 0, 9, 0, 9, 9, 5, 8, 0, 9), of(0, 0, 2, 0, 0, 2, 2, 2), of(0, 0, 2, 2, 2, 0, 0, 2),
		// A star, which turns the same way at each place, but goes around twice; and a square that does.
		of(5, 0, 8, 9, 0, 3, 10, 3, 2, 9), of(0, 0, 2, 0, 2, 2, 0, 2, 0, 0, 2, 0, 2, 2, 0, 2),
	} {
		wantNoCovered(t, l, rect(0, 0, 9, 9))
		wantNoCovered(t, l, board())
		wantNoCovered(t, l, rect(0, 0, 0, 0))
	}
	good := ring(at(2000, 1000), 3)
	if a, e := plane.Covered(good, board()); e != api.OK || a == (api.Ratio{}) {
		t.Errorf("the ring: %v, %d", a, e)
	}
	for i := 1; i < len(good); i++ {
		wantNoCovered(t, append(slices.Clone(good[i:]), good[:i]...), board())
		wrong := slices.Clone(good)
		wrong[i] = wrong[i-1]
		wantNoCovered(t, wrong, board())
		wrong = slices.Clone(good)
		wrong[i], wrong[i-1] = wrong[i-1], wrong[i]
		wantNoCovered(t, wrong, board())
	}
}

// P7.1: rectangles that are not valid.
func TestCoveredBadRects(t *testing.T) {
	for _, r := range badRects() {
		for _, l := range [][]api.Place{of(0, 0), of(0, 0, 2, 2), of(0, 0, 2, 0, 0, 2), of(0, 0, 4095, 0, 4095, 4095, 0, 4095)} {
			wantNoCovered(t, l, r)
		}
	}
}

// P7.1: what all small triangles and quadrangles cover of all small rectangles.
func TestCoveredSmall(t *testing.T) {
	r := source()
	for range 20000 {
		var places []api.Place
		for range 3 + r.Intn(3) {
			places = append(places, at(r.Intn(5), r.Intn(5)))
		}
		l := hull(t, places)
		x, y := r.Intn(5), r.Intn(5)
		box := rect(x, y, r.Intn(5-x), r.Intn(5-y))
		if a, e := plane.Covered(l, box); e != api.OK || a != ratio(plainCovered(l, box)) {
			t.Fatalf("Covered(%v, %v) = %v, %d; want %v", l, box, a, e, plainCovered(l, box))
		}
	}
}

// P7.1: what any polygons cover of any rectangles, of all sorts: nothing, a part, all of the polygon, and all of the rectangle.
func TestCoveredAny(t *testing.T) {
	r := source()
	var none, some, polygon, rectangle, broken int
	for range 6000 {
		l := anyPolygon(t, r)
		box := anyRect(r, l)
		want := plainCovered(l, box)
		if a, e := plane.Covered(l, box); e != api.OK || a != ratio(want) {
			t.Fatalf("Covered(%v, %v) = %v, %d; want %v", l, box, a, e, want)
		}
		whole := quotient(plainArea2(pointsOf(l)), number(2))
		switch {
		case want.Sign() == 0:
			none++
		case want.Cmp(whole) == 0:
			polygon++
		case want.Cmp(number(box.W*box.H)) == 0:
			rectangle++
		default:
			some++
		}
		if want.Denom().BitLen() > 24 {
			broken++
		}
	}
	if min(none, polygon, rectangle) < 300 || some < 1000 || broken < 100 {
		t.Errorf("none: %d, some: %d, the polygon: %d, the rectangle: %d, with a large denominator: %d", none, some, polygon, rectangle, broken)
	}
}

// P7.1: a polygon whose edges cross all sides of the rectangle twice, with denominators that have nothing in common.
func TestCoveredManyCuts(t *testing.T) {
	l := hull(t, of(1300, 7, 2711, 0, 4090, 1190, 4095, 2803, 2909, 4091, 1403, 4095, 5, 2801, 0, 1409))
	for _, box := range []api.Rect{rect(401, 409, 3301, 3301), rect(203, 211, 3701, 3694), rect(1000, 1000, 2000, 2000), rect(150, 300, 3500, 3600)} {
		if a, e := plane.Covered(l, box); e != api.OK || len(l) != 8 || a != ratio(plainCovered(l, box)) {
			t.Errorf("Covered(%v, %v) = %v, %d; want %v", l, box, a, e, plainCovered(l, box))
		}
	}
}
