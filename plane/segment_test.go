package plane_test

import (
	"testing"

	"slatewall/api"
	"slatewall/plane"
)

// P7.1: the chapter's examples of sides, of segments, and of distances.
func TestSegmentExamples(t *testing.T) {
	if n := plane.Side(at(0, 0), at(2, 0), at(1, 1)); n != 1 {
		t.Errorf("the side is %d", n)
	}
	if !plane.Cross(at(0, 0), at(2, 2), at(0, 2), at(2, 0)) || plane.Cross(at(0, 0), at(1, 1), at(2, 2), at(3, 3)) {
		t.Error("the segments")
	}
	for _, x := range []struct {
		a, b api.Place
		want string
	}{{at(0, 0), at(2, 2), "2"}, {at(2, 0), at(4, 0), "8"}} {
		if d, e := plane.Distance2(at(0, 2), x.a, x.b); e != api.OK || d != (api.Ratio{Num: x.want, Den: "1"}) {
			t.Errorf("the distance is %v, %d", d, e)
		}
	}
}

// P7.1: sides of places in line, of places that are the same, and of the farthest ones.
func TestSide(t *testing.T) {
	for i, x := range []struct {
		a, b, c api.Place
		want    int
	}{
		{at(0, 0), at(2, 0), at(1, 1), 1},
		{at(0, 0), at(2, 0), at(7, 1), 1},
		{at(0, 1), at(2, 1), at(1, 0), -1},
		{at(2, 0), at(0, 0), at(1, 1), -1},
		{at(5, 5), at(5, 9), at(4, 7), 1},
		{at(5, 5), at(5, 9), at(6, 7), -1},
		{at(0, 0), at(2, 2), at(4, 4), 0},
		{at(0, 0), at(4, 4), at(2, 2), 0},
		{at(2, 2), at(0, 0), at(4, 4), 0},
		{at(3, 7), at(9, 7), at(5, 7), 0},
		{at(3, 3), at(3, 3), at(4, 1), 0},
		{at(3, 3), at(4, 1), at(3, 3), 0},
		{at(4, 1), at(3, 3), at(3, 3), 0},
		{at(3, 3), at(3, 3), at(3, 3), 0},
		{at(0, 0), at(4095, 0), at(4095, 4095), 1},
		{at(0, 0), at(0, 4095), at(4095, 4095), -1},
		{at(0, 4095), at(4095, 4095), at(4095, 0), -1},
		{at(0, 0), at(4095, 4095), at(2000, 2000), 0},
		{at(0, 0), at(4095, 4094), at(2000, 2000), 1},
		{at(0, 0), at(4095, 4094), at(4094, 4093), -1},
		{at(0, 0), at(4094, 4095), at(4093, 4094), 1},
	} {
		if n := plane.Side(x.a, x.b, x.c); n != x.want {
			t.Errorf("%d: %d", i, n)
		}
	}
}

// P7.1: places that are not valid have no side, do not cross, and are at no distance.
func TestBadPlaces(t *testing.T) {
	good := of(0, 0, 4095, 0, 4095, 4095, 0, 4095)
	if plane.Side(good[0], good[1], good[2]) != 1 || !plane.Cross(good[0], good[2], good[1], good[3]) {
		t.Error("the corners of the board")
	}
	for _, p := range outside() {
		for i := range 4 {
			l := append([]api.Place(nil), good...)
			l[i] = p
			if i < 3 && plane.Side(l[0], l[1], l[2]) != 0 {
				t.Errorf("%v has a side", l)
			}
			if d, e := plane.Distance2(l[0], l[1], l[2]); i < 3 && (e != api.ErrPlane || d != (api.Ratio{})) {
				t.Errorf("Distance2(%v) = %v, %d", l, d, e)
			}
			if plane.Cross(l[0], l[2], l[1], l[3]) {
				t.Errorf("%v cross", l)
			}
		}
		if plane.Side(p, p, p) != 0 || plane.Cross(p, p, p, p) || plane.Cross(at(1, 1), p, at(1, 1), p) {
			t.Errorf("%v alone", p)
		}
		if d, e := plane.Distance2(p, p, p); e != api.ErrPlane || d != (api.Ratio{}) {
			t.Errorf("the distance of %v is %v, %d", p, d, e)
		}
	}
}

// wantCross checks Cross of two segments in all orders and directions.
func wantCross(t *testing.T, a, b, c, d api.Place, want bool) {
	t.Helper()
	for _, l := range [][4]api.Place{{a, b, c, d}, {b, a, c, d}, {a, b, d, c}, {b, a, d, c}, {c, d, a, b}, {d, c, a, b}, {c, d, b, a}, {d, c, b, a}} {
		if plane.Cross(l[0], l[1], l[2], l[3]) != want {
			t.Errorf("Cross of %v is not %t", l, want)
		}
	}
}

// P7.1: segments that cross, touch at an end, lie in line, are parallel, or are one place.
func TestCross(t *testing.T) {
	for _, x := range []struct {
		a, b, c, d api.Place
		want       bool
	}{
		{at(0, 0), at(2, 2), at(0, 2), at(2, 0), true},
		{at(0, 0), at(9, 1), at(4, 1), at(5, 0), true},
		{at(0, 0), at(4095, 4095), at(0, 4095), at(4095, 0), true},
		{at(0, 0), at(4095, 4094), at(2047, 2047), at(2047, 2046), true},
		{at(0, 0), at(4095, 4094), at(2047, 2047), at(2046, 2046), false},
		// Lines that cross beyond an end of one, or of both.
		{at(0, 0), at(2, 2), at(5, 0), at(4, 1), false},
		{at(0, 0), at(2, 2), at(4, 1), at(9, 1), false},
		{at(0, 0), at(1, 3), at(3, 0), at(2, 3), false},
		{at(0, 0), at(9, 9), at(9, 0), at(5, 4), false},
		{at(0, 0), at(4, 0), at(2, 1), at(2, 3), false},
		{at(0, 0), at(9, 9), at(4, 3), at(5, 1), false},
		// They touch at an end of one, or of both.
		{at(0, 0), at(2, 2), at(2, 2), at(3, 0), true},
		{at(0, 0), at(4, 0), at(2, 0), at(2, 3), true},
		{at(0, 0), at(4, 0), at(4, 0), at(4, 3), true},
		{at(0, 0), at(6, 3), at(4, 2), at(0, 9), true},
		{at(0, 0), at(6, 3), at(4, 3), at(0, 9), false},
		// In line: apart, by one, touching at an end, overlapping, and in each other.
		{at(0, 0), at(1, 1), at(2, 2), at(3, 3), false},
		{at(0, 0), at(4, 0), at(5, 0), at(9, 0), false},
		{at(7, 0), at(7, 4), at(7, 5), at(7, 9), false},
		{at(0, 0), at(2, 2), at(2, 2), at(3, 3), true},
		{at(0, 0), at(4, 0), at(4, 0), at(9, 0), true},
		{at(7, 0), at(7, 4), at(7, 4), at(7, 9), true},
		{at(0, 0), at(2, 2), at(1, 1), at(3, 3), true},
		{at(0, 6), at(6, 0), at(4, 2), at(2, 4), true},
		{at(3, 8), at(3, 1), at(3, 2), at(3, 4), true},
		{at(0, 0), at(2, 1), at(2, 1), at(6, 3), true},
		{at(0, 0), at(2, 1), at(4, 2), at(6, 3), false},
		{at(0, 0), at(3, 5), at(0, 0), at(3, 5), true},
		// Parallel, with rectangles around them that have common points.
		{at(0, 0), at(9, 9), at(0, 1), at(8, 9), false},
		{at(0, 0), at(9, 0), at(0, 1), at(9, 1), false},
		{at(0, 9), at(9, 0), at(1, 9), at(9, 1), false},
		// One place, or both.
		{at(1, 1), at(1, 1), at(0, 0), at(2, 2), true},
		{at(0, 0), at(0, 0), at(0, 0), at(2, 2), true},
		{at(1, 2), at(1, 2), at(0, 0), at(2, 2), false},
		{at(3, 3), at(3, 3), at(0, 0), at(2, 2), false},
		{at(1, 0), at(1, 0), at(0, 0), at(2, 2), false},
		{at(1, 1), at(1, 1), at(1, 1), at(1, 1), true},
		{at(1, 1), at(1, 1), at(1, 2), at(1, 2), false},
		{at(1, 1), at(1, 1), at(2, 1), at(2, 1), false},
		{at(4095, 4095), at(4095, 4095), at(0, 0), at(4095, 4095), true},
	} {
		wantCross(t, x.a, x.b, x.c, x.d, x.want)
	}
}

// P7.1: Cross of all segments of a small square.
func TestCrossSmall(t *testing.T) {
	const side = 4
	place := func(i int) api.Place { return at(i%side, 4095-i/side) }
	for i := range side * side {
		for k := range side * side {
			for m := range side * side {
				for n := range side * side {
					a, b, c, d := place(i), place(k), place(m), place(n)
					if got := plane.Cross(a, b, c, d); got != plainCross(a, b, c, d) {
						t.Fatalf("Cross(%v, %v, %v, %v) is %t", a, b, c, d, got)
					}
				}
			}
		}
	}
}

// P7.1: Side and Cross of any places.
func TestSideAndCrossAny(t *testing.T) {
	r := source()
	var sides [3]int
	var crosses int
	for range 20000 {
		l := anyPlaces(r, 4)
		n := plane.Side(l[0], l[1], l[2])
		if n != plainSide(l[0], l[1], l[2]) {
			t.Fatalf("the side of %v is %d", l[:3], n)
		}
		sides[n+1]++
		cross := plainCross(l[0], l[1], l[2], l[3])
		if plane.Cross(l[0], l[1], l[2], l[3]) != cross {
			t.Fatalf("Cross of %v is not %t", l, cross)
		}
		if cross {
			crosses++
		}
	}
	if sides[0] < 3000 || sides[1] < 3000 || sides[2] < 3000 || crosses < 3000 || crosses > 17000 {
		t.Errorf("the sides are %v, and %d cross", sides, crosses)
	}
}

// P7.1: distances to an end, to the inside, to a segment of one place, and of the farthest places.
func TestDistance2(t *testing.T) {
	for i, x := range []struct {
		p, a, b  api.Place
		num, den string
	}{
		// To the inside: on it, beside it, and with a fraction.
		{at(1, 1), at(0, 0), at(2, 2), "0", "1"},
		{at(2, 5), at(0, 0), at(9, 0), "25", "1"},
		{at(5, 2), at(0, 0), at(0, 9), "25", "1"},
		{at(0, 1), at(0, 0), at(2, 1), "4", "5"},
		{at(1, 0), at(0, 0), at(1, 1), "1", "2"},
		{at(13, 16), at(0, 0), at(40, 30), "25", "1"},
		{at(2, 3), at(0, 0), at(6, 3), "16", "5"},
		{at(0, 4095), at(0, 0), at(4095, 4095), "16769025", "2"},
		{at(4095, 4095), at(0, 4095), at(4095, 0), "16769025", "2"},
		{at(4095, 0), at(0, 0), at(4095, 4094), "281062877904900", "33529861"},
		{at(1, 1), at(0, 0), at(4095, 4094), "1", "33529861"},
		// To an end: the same place, upright on it, and beyond it.
		{at(0, 0), at(0, 0), at(2, 2), "0", "1"},
		{at(2, 2), at(0, 0), at(2, 2), "0", "1"},
		{at(0, 3), at(0, 0), at(9, 0), "9", "1"},
		{at(9, 3), at(0, 0), at(9, 0), "9", "1"},
		{at(12, 4), at(0, 0), at(9, 0), "25", "1"},
		{at(0, 2), at(2, 0), at(4, 0), "8", "1"},
		{at(9, 9), at(0, 0), at(5, 5), "32", "1"},
		{at(0, 0), at(3, 3), at(5, 5), "18", "1"},
		{at(2, 5), at(3, 3), at(5, 5), "9", "2"},
		{at(1, 5), at(3, 3), at(5, 5), "8", "1"},
		{at(1, 4), at(3, 3), at(5, 5), "5", "1"},
		// To a segment of one place.
		{at(3, 4), at(0, 0), at(0, 0), "25", "1"},
		{at(5, 5), at(5, 5), at(5, 5), "0", "1"},
		{at(0, 0), at(4095, 4095), at(4095, 4095), "33538050", "1"},
		{at(4095, 0), at(0, 4095), at(0, 4095), "33538050", "1"},
	} {
		want := api.Ratio{Num: x.num, Den: x.den}
		if d, e := plane.Distance2(x.p, x.a, x.b); e != api.OK || d != want {
			t.Errorf("%d: Distance2(%v, %v, %v) = %v, %d", i, x.p, x.a, x.b, d, e)
		}
		if d, e := plane.Distance2(x.p, x.b, x.a); e != api.OK || d != want {
			t.Errorf("%d: Distance2(%v, %v, %v) = %v, %d", i, x.p, x.b, x.a, d, e)
		}
	}
}

// P7.1: Distance2 of all places of a small square, and of any places.
func TestDistance2Any(t *testing.T) {
	check := func(p, a, b api.Place) {
		t.Helper()
		if d, e := plane.Distance2(p, a, b); e != api.OK || d != ratio(plainDistance2(p, a, b)) {
			t.Fatalf("Distance2(%v, %v, %v) = %v, %d", p, a, b, d, e)
		}
	}
	for i := range 9 * 9 * 9 {
		check(at(i%3, i/3%3), at(i/9%3, i/27%3), at(i/81%3, i/243))
	}
	r := source()
	for range 10000 {
		l := anyPlaces(r, 3)
		check(l[0], l[1], l[2])
	}
}
