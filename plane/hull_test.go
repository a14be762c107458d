package plane_test

import (
	"slices"
	"testing"

	"slatewall/api"
	"slatewall/plane"
)

// wantHull checks the hull of places, from whichever end they are listed.
func wantHull(t *testing.T, l []api.Place, want []api.Place) {
	t.Helper()
	back := slices.Clone(l)
	slices.Reverse(back)
	for _, list := range [][]api.Place{l, back} {
		if h, e := plane.Hull(list); e != api.OK || !slices.Equal(h, want) {
			t.Errorf("Hull(%v) = %v, %d; want %v", list, h, e, want)
		}
	}
}

// P7.1: hulls of one place and of two, of places in line, with the same place several times, and inside or on an edge.
func TestHull(t *testing.T) {
	for _, x := range []struct{ l, want []api.Place }{
		{of(0, 0, 2, 0, 1, 1, 2, 2, 0, 2), of(0, 0, 2, 0, 2, 2, 0, 2)},
		// One place, once and several times.
		{of(0, 0), of(0, 0)},
		{of(4095, 4095), of(4095, 4095)},
		{of(5, 5, 5, 5), of(5, 5)},
		{slices.Repeat(of(7, 9), 40), of(7, 9)},
		// Two places: the first one has the lesser Y, or the lesser X.
		{of(3, 1, 2, 2), of(3, 1, 2, 2)},
		{of(3, 1, 2, 1), of(2, 1, 3, 1)},
		{of(3, 1, 3, 2), of(3, 1, 3, 2)},
		{of(0, 4095, 4095, 0), of(4095, 0, 0, 4095)},
		{of(3, 1, 2, 2, 3, 1, 2, 2, 2, 2), of(3, 1, 2, 2)},
		// In line: along an axis, aslant, uneven, and with the same places.
		{of(2, 2, 1, 1, 0, 0), of(0, 0, 2, 2)},
		{of(1, 1, 0, 0, 3, 3, 2, 2, 1, 1), of(0, 0, 3, 3)},
		{of(4, 0, 2, 1, 0, 2, 6, 3, 8, 4), of(4, 0, 8, 4, 0, 2)},
		{of(8, 0, 0, 4, 4, 2), of(8, 0, 0, 4)},
		{of(5, 7, 1, 7, 9, 7, 2, 7), of(1, 7, 9, 7)},
		{of(5, 7, 5, 1, 5, 9, 5, 2), of(5, 1, 5, 9)},
		// Triangles, with a place more on an edge, near to an edge, and inside.
		{of(0, 0, 2, 0, 0, 2), of(0, 0, 2, 0, 0, 2)},
		{of(0, 0, 0, 2, 2, 2), of(0, 0, 2, 2, 0, 2)},
		{of(0, 0, 2, 0, 0, 2, 1, 1), of(0, 0, 2, 0, 0, 2)},
		{of(0, 0, 2, 0, 0, 2, 1, 0, 0, 1), of(0, 0, 2, 0, 0, 2)},
		{of(0, 0, 4095, 4095, 0, 4095, 2000, 2001), of(0, 0, 4095, 4095, 0, 4095)},
		{of(0, 0, 4095, 4095, 0, 4095, 2001, 2000), of(0, 0, 2001, 2000, 4095, 4095, 0, 4095)},
		{of(0, 4095, 4095, 4094, 4095, 4095), of(4095, 4094, 4095, 4095, 0, 4095)},
		// Several places with the least Y, and with the greatest one.
		{of(0, 2, 1, 0, 2, 0, 3, 0, 3, 2), of(1, 0, 3, 0, 3, 2, 0, 2)},
		{of(1, 5, 4, 5, 2, 5, 3, 5, 2, 3), of(2, 3, 4, 5, 1, 5)},
		{of(2, 1, 3, 2, 2, 3, 1, 2), of(2, 1, 3, 2, 2, 3, 1, 2)},
		{of(2, 2, 2, 0, 4, 2, 2, 4, 0, 2, 3, 1, 1, 1, 3, 3, 1, 3), of(2, 0, 4, 2, 2, 4, 0, 2)},
		{of(0, 0, 4095, 0, 4095, 4095, 0, 4095), of(0, 0, 4095, 0, 4095, 4095, 0, 4095)},
	} {
		wantHull(t, x.l, x.want)
	}
	wantHull(t, ring(at(2000, 1000), 1), ring(at(2000, 1000), 1))
	wantHull(t, ring(at(2000, 500), 50), ring(at(2000, 500), 50))
}

// P7.1: the polygon of 40 corners that these tests use is one.
func TestRing(t *testing.T) {
	l := ring(at(2000, 1000), 3)
	if len(l) != 40 || !slices.Equal(plainHull(l), l) {
		t.Errorf("%v", l)
	}
}

// P7.1: hulls of any places.
func TestHullAny(t *testing.T) {
	r := source()
	var sizes [41]int
	check := func(l []api.Place) {
		t.Helper()
		h := hull(t, l)
		if want := plainHull(l); !slices.Equal(h, want) {
			t.Fatalf("Hull(%v) = %v; want %v", l, h, want)
		}
		sizes[len(h)]++
	}
	for range 3000 {
		check(anyPlaces(r, 1+r.Intn(7)))
	}
	for range 100 {
		check(anyPlaces(r, 1+r.Intn(40)))
	}
	for range 1000 {
		// Corners of the ring, in any order, and some of them again.
		l := ring(at(2000, 1000), 3)
		r.Shuffle(len(l), func(i, k int) { l[i], l[k] = l[k], l[i] })
		l = l[:1+r.Intn(6)]
		check(append(l, l[:r.Intn(len(l))]...))
	}
	for n := 1; n < 7; n++ {
		if sizes[n] < 50 {
			t.Errorf("only %d hulls have %d corners", sizes[n], n)
		}
	}
}

// P7.1: hulls of all lists of three, and of all sets of places of a small square.
func TestHullSmall(t *testing.T) {
	place := func(i int) api.Place { return at(4093+i%3, i/3) }
	for i := range 9 * 9 * 9 {
		l := []api.Place{place(i % 9), place(i / 9 % 9), place(i / 81)}
		if h := hull(t, l); !slices.Equal(h, plainHull(l)) {
			t.Errorf("Hull(%v) = %v", l, h)
		}
	}
	for set := 1; set < 1<<9; set++ {
		var l []api.Place
		for i := range 9 {
			if set>>i&1 == 1 {
				l = append(l, place(i))
			}
		}
		if h := hull(t, l); !slices.Equal(h, plainHull(l)) {
			t.Errorf("Hull(%v) = %v", l, h)
		}
	}
}

// P7.1: areas that are gone around either way, of one place and of two, and of polygons that are not convex, or cross themselves.
func TestArea2(t *testing.T) {
	for i, x := range []struct {
		l    []api.Place
		want int
	}{
		{of(7, 9), 0},
		{of(4095, 4095), 0},
		{of(7, 9, 3, 4000), 0},
		{of(7, 9, 7, 9, 7, 9), 0},
		{of(1, 1, 2, 2, 3, 3), 0},
		{of(0, 0, 2, 0, 2, 2, 0, 2), 8},
		{of(0, 2, 2, 2, 2, 0, 0, 0), -8},
		{of(2, 2, 0, 2, 0, 0, 2, 0), 8},
		{of(5, 5, 6, 5, 5, 6), 1},
		{of(5, 5, 5, 6, 6, 5), -1},
		{of(0, 0, 4095, 0, 4095, 4095, 0, 4095), 2 * 4095 * 4095},
		{of(0, 0, 0, 4095, 4095, 4095, 4095, 0), -2 * 4095 * 4095},
		// Not convex; crossing itself; twice around; there and back.
		{of(0, 0, 4, 0, 4, 4, 3, 1), 8},
		{of(0, 0, 2, 2, 2, 0, 0, 2), 0},
		{of(0, 0, 4, 4, 4, 0, 0, 2), -8},
		{of(0, 0, 2, 0, 2, 2, 0, 2, 0, 0, 2, 0, 2, 2, 0, 2), 16},
		{of(0, 0, 2, 0, 2, 2, 2, 0), 0},
		{slices.Repeat(of(0, 0, 4095, 0, 4095, 4095, 0, 4095), 10), 20 * 4095 * 4095},
		{slices.Repeat(of(0, 4095, 4095, 4095, 4095, 0, 0, 0), 10), -20 * 4095 * 4095},
	} {
		if n, e := plane.Area2(x.l); e != api.OK || n != x.want {
			t.Errorf("%d: Area2(%v) = %d, %d; want %d", i, x.l, n, e, x.want)
		}
	}
	r := source()
	for range 3000 {
		l := anyPlaces(r, 1+r.Intn(40))
		n, e := plane.Area2(l)
		if e != api.OK || number(n).Cmp(plainArea2(pointsOf(l))) != 0 {
			t.Fatalf("Area2(%v) = %d, %d", l, n, e)
		}
		slices.Reverse(l)
		if back, e := plane.Area2(l); e != api.OK || back != -n {
			t.Fatalf("Area2(%v) = %d, %d", l, back, e)
		}
		if h, e := plane.Area2(hull(t, l)); e != api.OK || h < 0 || len(hull(t, l)) > 2 && h == 0 {
			t.Fatalf("the hull of %v goes around %d, %d", l, h, e)
		}
	}
}

// wantUntouched checks that a call leaves a list and what is behind it as they were.
func wantUntouched(t *testing.T, name string, l []api.Place, call func([]api.Place)) {
	t.Helper()
	all := append(slices.Clone(l), of(1, 2, 3, 4, 5, 6, 7, 8)...)
	kept := slices.Clone(all)
	call(all[:len(l)])
	if !slices.Equal(all, kept) {
		t.Errorf("%s changes %v to %v", name, kept, all)
	}
}

// P7.1, R3: arguments stay as they are, and a hull is new memory, with what is behind it.
func TestMemory(t *testing.T) {
	lists := [][]api.Place{of(7, 9), of(3, 1, 2, 2), of(0, 0, 2, 0, 2, 2, 0, 2), of(2, 2, 0, 0, 0, 2, 2, 0, 1, 1, 2, 2), ring(at(2000, 1000), 1)}
	for _, l := range lists {
		wantUntouched(t, "Around", l, func(l []api.Place) { plane.Around(l) })
		wantUntouched(t, "Area2", l, func(l []api.Place) { plane.Area2(l) })
		wantUntouched(t, "Covered", l, func(l []api.Place) { plane.Covered(l, rect(1, 1, 1000, 1000)) })
		wantUntouched(t, "Hull", l, func(l []api.Place) {
			h, other := hull(t, l), hull(t, l)
			again := slices.Clone(other)
			for _, result := range [][]api.Place{h, h[:cap(h)]} {
				for i := range result {
					result[i] = at(11, 12)
				}
			}
			if !slices.Equal(other, again) {
				t.Errorf("two hulls of %v share memory", l)
			}
		})
		if h := hull(t, l); !slices.Equal(h, plainHull(l)) {
			t.Errorf("after changes, Hull(%v) = %v", l, h)
		}
	}
}
