package plane_test

import (
	"math/big"
	"math/rand"
	"slices"
	"testing"

	"slatewall/api"
	"slatewall/plane"
)

// moved are places that are moved.
func moved(l []api.Place, x, y int) []api.Place {
	var places []api.Place
	for _, p := range l {
		places = append(places, at(p.X+x, p.Y+y))
	}
	return places
}

// anyMove is by how much places can be moved, along both axes, and stay on the board.
func anyMove(r *rand.Rand, l []api.Place) (int, int) {
	box := plainAround(l)
	return r.Intn(4096-box.W) - box.X, r.Intn(4096-box.H) - box.Y
}

// P7.2: Side changes its sign if two places are exchanged, and stays the same if all three go around, and if everything is moved.
func TestSides(t *testing.T) {
	r := source()
	var found [3]int
	for range 20000 {
		l := anyPlaces(r, 3)
		a, b, c := l[0], l[1], l[2]
		side := plane.Side(a, b, c)
		found[side+1]++
		if plane.Side(b, a, c) != -side || plane.Side(a, c, b) != -side || plane.Side(c, b, a) != -side {
			t.Errorf("Side of %v is %d, but with two places exchanged it is not %d", l, side, -side)
		}
		if plane.Side(b, c, a) != side || plane.Side(c, a, b) != side {
			t.Errorf("Side of %v is %d, but not if they go around", l, side)
		}
		x, y := anyMove(r, l)
		if m := moved(l, x, y); plane.Side(m[0], m[1], m[2]) != side {
			t.Errorf("Side of %v is %d, but not that of %v", l, side, m)
		}
	}
	if min(found[0], found[1], found[2]) < 2000 {
		t.Errorf("the sides are %v", found)
	}
}

// P7.3: Cross depends neither on the order of segments nor on their directions, and goes by the sides of their ends.
func TestCrossing(t *testing.T) {
	r := source()
	var strict, apart int
	for range 20000 {
		l := anyPlaces(r, 4)
		a, b, c, d := l[0], l[1], l[2], l[3]
		cross := plane.Cross(a, b, c, d)
		wantCross(t, a, b, c, d, cross)
		one := plane.Side(a, b, c) * plane.Side(a, b, d)
		other := plane.Side(c, d, a) * plane.Side(c, d, b)
		if one < 0 && other < 0 {
			strict++
			if !cross {
				t.Errorf("%v are on different sides, but do not cross", l)
			}
		}
		if one > 0 || other > 0 {
			apart++
			if cross {
				t.Errorf("%v are on one side, but cross", l)
			}
		}
		x, y := anyMove(r, l)
		if m := moved(l, x, y); plane.Cross(m[0], m[1], m[2], m[3]) != cross {
			t.Errorf("Cross of %v is %t, but not that of %v", l, cross, m)
		}
	}
	if strict < 2000 || apart < 2000 {
		t.Errorf("%d are on different sides, %d on one", strict, apart)
	}
}

// P7.4: the corners are among the places, no place is outside of an edge, each corner turns, and the hull of the hull is the hull.
func TestHulls(t *testing.T) {
	r := source()
	for range 3000 {
		l := anyPlaces(r, 1+r.Intn(40))
		h := hull(t, l)
		for i, p := range h {
			next, after := h[(i+1)%len(h)], h[(i+2)%len(h)]
			if !slices.Contains(l, p) {
				t.Errorf("Hull(%v) has %v", l, p)
			}
			if len(h) > 2 && plane.Side(p, next, after) != 1 {
				t.Errorf("Hull(%v) = %v does not turn at %v", l, h, next)
			}
			for _, other := range l {
				if plane.Side(p, next, other) < 0 || len(h) < 3 && !isBetween(other, p, next) {
					t.Errorf("Hull(%v) = %v: %v is outside of the edge from %v to %v", l, h, other, p, next)
				}
			}
			if p.Y < h[0].Y || p.Y == h[0].Y && p.X < h[0].X {
				t.Errorf("Hull(%v) = %v does not begin with %v", l, h, p)
			}
		}
		if again := hull(t, h); !slices.Equal(again, h) {
			t.Errorf("the hull of %v is %v", h, again)
		}
	}
}

// P7.4: the order of places, and places that are there several times, play no part.
func TestHullsOfOthers(t *testing.T) {
	r := source()
	for range 3000 {
		l := anyPlaces(r, 1+r.Intn(20))
		if r.Intn(5) == 0 {
			l = ring(at(2000, 1000), 1+r.Intn(50))[:1+r.Intn(30)]
		}
		h := hull(t, l)
		other := append(slices.Clone(l), l[:r.Intn(min(len(l), 40-len(l))+1)]...)
		r.Shuffle(len(other), func(i, k int) { other[i], other[k] = other[k], other[i] })
		if got := hull(t, other); !slices.Equal(got, h) {
			t.Errorf("Hull(%v) = %v, but Hull(%v) = %v", l, h, other, got)
		}
		if got := hull(t, once(l)); !slices.Equal(got, h) {
			t.Errorf("Hull(%v) = %v, but Hull(%v) = %v", l, h, once(l), got)
		}
	}
}

// P7.5: a distance is 0 exactly on the segment, at most that from both ends, at least 0, has no direction, and moves with everything.
func TestDistances(t *testing.T) {
	r := source()
	var on int
	for range 10000 {
		l := anyPlaces(r, 3)
		p, a, b := l[0], l[1], l[2]
		d := distance2(t, p, a, b)
		if d.Sign() < 0 || (d.Sign() == 0) != isBetween(p, a, b) {
			t.Errorf("Distance2 of %v is %v", l, d)
		}
		if d.Sign() == 0 {
			on++
		}
		if (d.Sign() == 0) != plane.Cross(p, p, a, b) {
			t.Errorf("Distance2 of %v is %v, but Cross says something else", l, d)
		}
		for _, end := range []api.Place{a, b} {
			x, y := p.X-end.X, p.Y-end.Y
			if own := distance2(t, p, end, end); own.Cmp(number(x*x+y*y)) != 0 || d.Cmp(own) > 0 {
				t.Errorf("Distance2 of %v is %v, but %v is nearer", l, d, end)
			}
		}
		if back := distance2(t, p, b, a); back.Cmp(d) != 0 {
			t.Errorf("Distance2 of %v is %v, but backward %v", l, d, back)
		}
		x, y := anyMove(r, l)
		if m := moved(l, x, y); distance2(t, m[0], m[1], m[2]).Cmp(d) != 0 {
			t.Errorf("Distance2 of %v is %v, but not that of %v", l, d, m)
		}
	}
	if on < 1000 || on > 9000 {
		t.Errorf("%d of 10000 are on the segment", on)
	}
}

// halves are two parts of a rectangle, on both sides of a line that crosses it somewhere.
func halves(r *rand.Rand, box api.Rect) (api.Rect, api.Rect) {
	if r.Intn(2) == 0 {
		n := r.Intn(box.W + 1)
		return rect(box.X, box.Y, n, box.H), rect(box.X+n, box.Y, box.W-n, box.H)
	}
	n := r.Intn(box.H + 1)
	return rect(box.X, box.Y, box.W, n), rect(box.X, box.Y+n, box.W, box.H-n)
}

// P7.6: what is covered of two parts adds up, is at most both areas, and is the polygon's if that is inside.
func TestAreas(t *testing.T) {
	r := source()
	var inside int
	for range 5000 {
		l := anyPolygon(t, r)
		box := anyRect(r, l)
		all := covered(t, l, box)
		one, other := halves(r, box)
		if parts := sum(covered(t, l, one), covered(t, l, other)); parts.Cmp(all) != 0 {
			t.Errorf("Covered(%v, %v) is %v, but of %v and %v it is %v", l, box, all, one, other, parts)
		}
		twice, e := plane.Area2(l)
		whole := big.NewRat(int64(twice), 2)
		if e != api.OK || all.Sign() < 0 || all.Cmp(whole) > 0 || all.Cmp(number(box.W*box.H)) > 0 {
			t.Errorf("Covered(%v, %v) is %v, and the polygon has %v", l, box, all, whole)
		}
		if plane.Inside(plainAround(l), box) {
			inside++
			if all.Cmp(whole) != 0 {
				t.Errorf("Covered(%v, %v) is %v, but the polygon has %v", l, box, all, whole)
			}
		}
		around, e := plane.Around(l)
		if e != api.OK || covered(t, l, around).Cmp(whole) != 0 {
			t.Errorf("what %v covers of %v is not %v", l, around, whole)
		}
	}
	if inside < 200 {
		t.Errorf("only %d are inside", inside)
	}
}

// P7.6: what a polygon covers of the rows and columns of the rectangle around it is the polygon's area.
func TestAreasOfCells(t *testing.T) {
	r := source()
	for range 50 {
		l := anyPolygon(t, r)
		box, e := plane.Around(l)
		twice, f := plane.Area2(l)
		cells := new(big.Rat)
		stepX, stepY := 1+box.W/7, 1+box.H/7
		for x := 0; x <= box.W; x += stepX {
			for y := 0; y <= box.H; y += stepY {
				cells = sum(cells, covered(t, l, rect(box.X+x, box.Y+y, min(stepX, box.W-x), min(stepY, box.H-y))))
			}
		}
		if e != api.OK || f != api.OK || cells.Cmp(big.NewRat(int64(twice), 2)) != 0 {
			t.Errorf("the cells of %v have %v, but the polygon %d halves", l, cells, twice)
		}
	}
}

// P7.7: Inside is reflexive and transitive, and both ways for the same rectangles alone; what is inside touches, and what it touches is touched.
func TestRectangles(t *testing.T) {
	l := smallRects()
	for _, a := range l {
		if !plane.Inside(a, a) {
			t.Errorf("%v is not inside of itself", a)
		}
		for _, b := range l {
			if !plane.Inside(a, b) {
				continue
			}
			if (a == b) != plane.Inside(b, a) || !plane.Touch(a, b) || !plane.Touch(b, a) {
				t.Errorf("%v is inside of %v", a, b)
			}
			for _, c := range l {
				if plane.Inside(b, c) && !plane.Inside(a, c) || plane.Touch(a, c) && !plane.Touch(b, c) {
					t.Errorf("%v is inside of %v, but %v says otherwise", a, b, c)
				}
			}
		}
	}
}

// P7.7: the same of any rectangles on the board.
func TestRectanglesAny(t *testing.T) {
	r := source()
	var inside, touch int
	for range 20000 {
		a := anyRect(r, of(r.Intn(4096), r.Intn(4096), r.Intn(4096), r.Intn(4096)))
		b := anyRect(r, of(a.X, a.Y, a.X+a.W, a.Y+a.H))
		c := anyRect(r, of(b.X, b.Y, b.X+b.W, b.Y+b.H))
		if !plane.Inside(a, a) || !plane.Touch(a, a) || plane.Touch(a, b) != plane.Touch(b, a) {
			t.Errorf("%v and %v", a, b)
		}
		if plane.Inside(b, a) {
			inside++
			if !plane.Touch(a, b) || plane.Inside(a, b) != (a == b) || plane.Inside(c, b) && !plane.Inside(c, a) || plane.Touch(b, c) && !plane.Touch(a, c) {
				t.Errorf("%v is inside of %v, but %v says otherwise", b, a, c)
			}
		}
		if plane.Touch(a, b) {
			touch++
		}
	}
	if inside < 1000 || touch-inside < 1000 {
		t.Errorf("%d are inside, %d touch", inside, touch)
	}
}

// P7.7: a place is in the rectangle around places exactly if it is between their least and greatest coordinates.
func TestRectanglesAround(t *testing.T) {
	r := source()
	var within int
	for range 20000 {
		l := anyPlaces(r, 1+r.Intn(40))
		box, e := plane.Around(l)
		p := anyPlaces(r, 1)[0]
		if r.Intn(2) == 0 {
			p = at(onto(box.X-2+r.Intn(box.W+5)), onto(box.Y-2+r.Intn(box.H+5)))
		}
		var less, more, above, below bool
		for _, q := range l {
			less, more, above, below = less || q.X <= p.X, more || q.X >= p.X, above || q.Y <= p.Y, below || q.Y >= p.Y
			if !plane.Inside(rect(q.X, q.Y, 0, 0), box) {
				t.Errorf("Around(%v) = %v has no %v", l, box, q)
			}
		}
		want := less && more && above && below
		if e != api.OK || plane.Inside(rect(p.X, p.Y, 0, 0), box) != want || has(box, p) != want {
			t.Errorf("Around(%v) = %v, and %v", l, box, p)
		}
		if want {
			within++
		}
	}
	if within < 3000 || within > 17000 {
		t.Errorf("%d of 20000 are in the rectangle", within)
	}
}
