package plane_test

import (
	"math"
	"testing"

	"slatewall/api"
	"slatewall/plane"
)

// P7.1: places at the borders of the board, and beyond them.
func TestValidPlace(t *testing.T) {
	for _, p := range of(0, 0, 4095, 0, 0, 4095, 4095, 4095, 1, 4094, 2000, 3000) {
		if !plane.ValidPlace(p) {
			t.Errorf("%v is not valid", p)
		}
	}
	for _, p := range outside() {
		if plane.ValidPlace(p) {
			t.Errorf("%v is valid", p)
		}
	}
}

// badRects are rectangles that are not valid, each for another reason.
func badRects() []api.Rect {
	l := []api.Rect{
		rect(-1, 5, 10, 10), rect(5, -1, 10, 10), rect(5, 5, -1, 10), rect(5, 5, 10, -1), rect(-5, 0, 5, 0), rect(10, 10, -5, -5),
		rect(4095, 0, 1, 0), rect(0, 4095, 0, 1), rect(1, 0, 4095, 0), rect(0, 1, 0, 4095), rect(0, 0, 4096, 0), rect(0, 0, 0, 4096),
		rect(4096, 0, 0, 0), rect(0, 4096, 0, 0), rect(4096, 0, -1, 0), rect(0, 4096, 0, -1), rect(2000, 0, 2096, 5), rect(0, 2000, 5, 2096),
	}
	for _, n := range []int{math.MinInt, math.MinInt + 1, math.MaxInt, math.MaxInt - 4095, 1 << 62, -1 << 62, 1 << 32, -1 << 32} {
		l = append(l, rect(n, 0, 0, 0), rect(0, n, 0, 0), rect(0, 0, n, 0), rect(0, 0, 0, n))
		l = append(l, rect(n, 0, -n, 0), rect(0, n, 0, -n), rect(n, 0, n, 0), rect(0, n, 0, n), rect(4095, 0, n, 0), rect(0, 4095, 0, n), rect(n, n, n, n))
	}
	return l
}

// P7.1: rectangles without width or height, up to the borders, and beyond them.
func TestValidRect(t *testing.T) {
	for _, r := range []api.Rect{
		{}, board(), rect(4095, 4095, 0, 0), rect(0, 4095, 4095, 0), rect(4095, 0, 0, 4095), rect(5, 6, 7, 8), rect(5, 6, 0, 8), rect(5, 6, 7, 0),
		rect(4094, 4094, 1, 1), rect(1, 1, 4094, 4094), rect(2000, 0, 2095, 4095), rect(0, 2000, 4095, 2095),
	} {
		if !plane.ValidRect(r) {
			t.Errorf("%v is not valid", r)
		}
	}
	for _, r := range badRects() {
		if plane.ValidRect(r) {
			t.Errorf("%v is valid", r)
		}
	}
}

// P7.1: rectangles that lie in each other, overlap, touch along a border or in a corner alone, or are apart by one.
func TestTouchAndInside(t *testing.T) {
	r := rect(10, 20, 5, 8)
	for i, x := range []struct {
		s             api.Rect
		touch, inside bool
	}{
		{r, true, true},
		{rect(11, 21, 3, 6), true, true},
		// Along a border from the inside, and beyond it by one.
		{rect(10, 22, 3, 3), true, true}, {rect(9, 22, 3, 3), true, false},
		{rect(12, 20, 3, 3), true, true}, {rect(12, 19, 3, 3), true, false},
		{rect(12, 22, 3, 3), true, true}, {rect(13, 22, 3, 3), true, false},
		{rect(12, 25, 2, 3), true, true}, {rect(12, 26, 2, 3), true, false},
		// Along a border from the outside, and farther by one.
		{rect(7, 22, 3, 3), true, false}, {rect(6, 22, 3, 3), false, false},
		{rect(12, 17, 1, 3), true, false}, {rect(12, 16, 1, 3), false, false},
		{rect(15, 22, 3, 3), true, false}, {rect(16, 22, 3, 3), false, false},
		{rect(12, 28, 1, 3), true, false}, {rect(12, 29, 1, 3), false, false},
		// In a corner alone, and farther along one axis.
		{rect(7, 17, 3, 3), true, false}, {rect(6, 17, 3, 3), false, false}, {rect(7, 16, 3, 3), false, false},
		{rect(15, 17, 3, 3), true, false}, {rect(16, 17, 3, 3), false, false}, {rect(15, 16, 3, 3), false, false},
		{rect(7, 28, 3, 3), true, false}, {rect(6, 28, 3, 3), false, false}, {rect(7, 29, 3, 3), false, false},
		{rect(15, 28, 3, 3), true, false}, {rect(16, 28, 3, 3), false, false}, {rect(15, 29, 3, 3), false, false},
		// Without width or height.
		{rect(12, 22, 0, 0), true, true}, {rect(10, 20, 0, 0), true, true}, {rect(15, 28, 0, 0), true, true}, {rect(16, 28, 0, 0), false, false}, {rect(15, 29, 0, 0), false, false},
		{rect(10, 20, 0, 8), true, true}, {rect(10, 20, 5, 0), true, true}, {rect(15, 20, 0, 8), true, true}, {rect(10, 28, 5, 0), true, true},
		{rect(12, 0, 0, 4095), true, false}, {rect(0, 24, 4095, 0), true, false}, {rect(9, 0, 0, 4095), false, false}, {rect(0, 29, 4095, 0), false, false},
		// Across, and around.
		{rect(0, 22, 99, 2), true, false}, {rect(12, 0, 1, 99), true, false}, {board(), true, false}, {rect(9, 19, 7, 10), true, false}, {rect(10, 20, 6, 8), true, false},
	} {
		if plane.Touch(r, x.s) != x.touch || plane.Touch(x.s, r) != x.touch {
			t.Errorf("%d: Touch(%v, %v) is not %t", i, r, x.s, x.touch)
		}
		if plane.Inside(x.s, r) != x.inside {
			t.Errorf("%d: Inside(%v, %v) is not %t", i, x.s, r, x.inside)
		}
	}
	empty := rect(12, 22, 0, 0)
	if !plane.Touch(empty, empty) || !plane.Inside(empty, empty) || !plane.Inside(board(), board()) || !plane.Inside(rect(4095, 4095, 0, 0), board()) || plane.Touch(rect(0, 0, 0, 0), rect(4095, 4095, 0, 0)) {
		t.Error("rectangles of one place, or the board")
	}
}

// P7.1: what is not valid touches nothing, and is inside of nothing.
func TestBadRects(t *testing.T) {
	for _, bad := range badRects() {
		for _, other := range []api.Rect{bad, board(), {}, rect(5, 5, 10, 10), rect(4095, 4095, 0, 0), rect(0, 4095, 4095, 0)} {
			if plane.Touch(bad, other) || plane.Touch(other, bad) || plane.Inside(bad, other) || plane.Inside(other, bad) {
				t.Errorf("%v and %v", bad, other)
			}
		}
	}
}

// smallRects are all rectangles of a small square.
func smallRects() []api.Rect {
	var l []api.Rect
	for x := range 4 {
		for y := range 4 {
			for w := range 4 - x {
				for h := range 4 - y {
					l = append(l, rect(x, y, w, h))
				}
			}
		}
	}
	return l
}

// has says whether a rectangle has a place.
func has(r api.Rect, p api.Place) bool {
	return r.X <= p.X && p.X-r.X <= r.W && r.Y <= p.Y && p.Y-r.Y <= r.H
}

// P7.1: Touch and Inside of all rectangles of a small square, place by place. Of two that have a common point, one place is common, too.
func TestSmallRects(t *testing.T) {
	for _, a := range smallRects() {
		for _, b := range smallRects() {
			touch, inside := false, true
			for i := range 16 {
				p := at(i%4, i/4)
				touch = touch || has(a, p) && has(b, p)
				inside = inside && (!has(a, p) || has(b, p))
			}
			if plane.Touch(a, b) != touch || plane.Inside(a, b) != inside {
				t.Errorf("%v and %v: not %t and %t", a, b, touch, inside)
			}
		}
	}
}

// wantNoList checks that no function takes a list.
func wantNoList(t *testing.T, l []api.Place) {
	t.Helper()
	if r, e := plane.Around(l); e != api.ErrPlane || r != (api.Rect{}) {
		t.Errorf("Around(%v) = %v, %d", l, r, e)
	}
	if h, e := plane.Hull(l); e != api.ErrPlane || len(h) != 0 {
		t.Errorf("Hull(%v) = %v, %d", l, h, e)
	}
	if n, e := plane.Area2(l); e != api.ErrPlane || n != 0 {
		t.Errorf("Area2(%v) = %d, %d", l, n, e)
	}
	wantNoCovered(t, l, board())
}

// P7.1: lists of no place, of 41 and more, and with a place that is not valid, wherever it is.
func TestBadLists(t *testing.T) {
	wantNoList(t, nil)
	wantNoList(t, []api.Place{})
	wantNoList(t, make([]api.Place, 41))
	wantNoList(t, make([]api.Place, 100000))
	wantNoList(t, append(ring(at(1000, 1000), 1), at(1000, 1000)))
	for _, p := range outside() {
		wantNoList(t, []api.Place{p})
		wantNoList(t, []api.Place{p, p})
		for i := range 4 {
			l := of(0, 0, 2, 0, 2, 2, 0, 2)
			l[i] = p
			wantNoList(t, l)
		}
		for _, i := range []int{0, 20, 39} {
			l := ring(at(1000, 1000), 1)
			l[i] = p
			wantNoList(t, l)
		}
	}
}

// P7.1: Around of one place, of few, of 40, and of any.
func TestAround(t *testing.T) {
	for i, x := range []struct {
		l    []api.Place
		want api.Rect
	}{
		{of(7, 9), rect(7, 9, 0, 0)},
		{of(0, 0), rect(0, 0, 0, 0)},
		{of(4095, 4095), rect(4095, 4095, 0, 0)},
		{of(7, 9, 7, 9, 7, 9), rect(7, 9, 0, 0)},
		{of(0, 4095, 4095, 0), board()},
		{of(3, 9, 1, 12, 2, 10), rect(1, 9, 2, 3)},
		{of(1, 9, 5, 9, 3, 9), rect(1, 9, 4, 0)},
		{of(5, 2, 5, 8, 5, 1), rect(5, 1, 0, 7)},
		{make([]api.Place, 40), api.Rect{}},
	} {
		if r, e := plane.Around(x.l); e != api.OK || r != x.want {
			t.Errorf("%d: Around(%v) = %v, %d", i, x.l, r, e)
		}
	}
	r := source()
	for range 3000 {
		l := anyPlaces(r, 1+r.Intn(40))
		if box, e := plane.Around(l); e != api.OK || box != plainAround(l) || !plane.ValidRect(box) {
			t.Errorf("Around(%v) = %v, %d", l, box, e)
		}
	}
}
