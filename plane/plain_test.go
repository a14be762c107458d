package plane_test

import (
	"math/big"
	"math/rand"
	"slices"
	"testing"

	"slatewall/api"
	"slatewall/plane"
)

// This file makes places, polygons and rectangles, and computes results in another way than the package does: from the chapter's definitions, with the library's fractions.

// source is the same for every run of a test.
func source() *rand.Rand { return rand.New(rand.NewSource(7)) }

// at returns a place.
func at(x int, y int) api.Place { return api.Place{X: x, Y: y} }

// of returns places with these X and Y in turn.
func of(l ...int) []api.Place {
	var places []api.Place
	for i := 0; i+1 < len(l); i += 2 {
		places = append(places, at(l[i], l[i+1]))
	}
	return places
}

// rect returns a rectangle.
func rect(x, y, w, h int) api.Rect { return api.Rect{X: x, Y: y, W: w, H: h} }

// board is the rectangle that has all places.
func board() api.Rect { return rect(0, 0, 4095, 4095) }

// onto is the nearest number that a place can have.
func onto(n int) int { return min(max(n, 0), api.MaxPlace) }

// outside are places that are not on the board, each for another reason.
func outside() []api.Place {
	var l []api.Place
	for _, n := range []int{-1, 4096, -1 << 62, 1 << 62, -1 << 63, 1<<63 - 1} {
		l = append(l, at(n, 0), at(0, n), at(n, 4095), at(4095, n), at(n, n))
	}
	return l
}

// anyPlaces are so many places, of one of several sorts: all over the board, on few places, in a small square, in line, on the border of the board, or all the same.
func anyPlaces(r *rand.Rand, count int) []api.Place {
	var l []api.Place
	sort, middle, reach := r.Intn(7), at(r.Intn(4096), r.Intn(4096)), 1+r.Intn(300)
	slope := at(r.Intn(41)-20, r.Intn(41)-20)
	for range count {
		p := middle
		switch sort {
		case 0:
			p = at(r.Intn(4096), r.Intn(4096))
		case 1:
			p = at(100+r.Intn(4), 200+r.Intn(4))
		case 2, 3:
			p = at(onto(middle.X+r.Intn(2*reach+1)-reach), onto(middle.Y+r.Intn(2*reach+1)-reach))
		case 4:
			k := r.Intn(100)
			p = at(2000+k*slope.X, 2000+k*slope.Y)
		case 5:
			k, side := r.Intn(4096), []int{0, 4095}[r.Intn(2)]
			if p = at(k, side); r.Intn(2) == 0 {
				p = at(side, k)
			}
		}
		l = append(l, p)
	}
	return l
}

// isCoprime says whether no number from 2 on divides both.
func isCoprime(x, y int) bool {
	return new(big.Int).GCD(nil, nil, big.NewInt(int64(x)), big.NewInt(int64(y))).Cmp(big.NewInt(1)) == 0
}

// ring is a convex polygon of 40 corners, so many times as large as it can be at the least: its edges are the 20 shortest ones, no two in the same direction, and the same 20 backward.
func ring(middle api.Place, times int) []api.Place {
	var steps []api.Place
	for length := 1; len(steps) < 20; length++ {
		for x := -length; x <= length; x++ {
			for y := 0; y <= length; y++ {
				if x*x+y*y == length && (y > 0 || x > 0) && isCoprime(max(x, -x), y) && len(steps) < 20 {
					steps = append(steps, at(times*x, times*y))
				}
			}
		}
	}
	// From that along X on, each edge turns more than the one before.
	slices.SortFunc(steps, func(a, b api.Place) int { return b.X*a.Y - b.Y*a.X })
	l, p := []api.Place(nil), middle
	for _, back := range []int{1, -1} {
		for _, s := range steps {
			l = append(l, p)
			p = at(p.X+back*s.X, p.Y+back*s.Y)
		}
	}
	return l
}

// anyPolygon is a convex polygon, of as many corners as it happens to have, seldom fewer than three.
func anyPolygon(t *testing.T, r *rand.Rand) []api.Place {
	t.Helper()
	if r.Intn(8) == 0 {
		return ring(at(1500+r.Intn(1000), r.Intn(1000)), 1+r.Intn(50))
	}
	for {
		l := hull(t, anyPlaces(r, 1+r.Intn(api.MaxCorners)))
		if len(l) > 2 || r.Intn(10) == 0 {
			return l
		}
	}
}

// spanned is the rectangle between two corners, as much of it as is on the board.
func spanned(a, b api.Place) api.Rect {
	return plainAround(of(onto(a.X), onto(a.Y), onto(b.X), onto(b.Y)))
}

// anyRect is a rectangle on the board: anywhere, around all places, or with corners somewhere in the rectangle around them, or near to it.
func anyRect(r *rand.Rand, l []api.Place) api.Rect {
	box, more := plainAround(l), r.Intn(8)
	inside := func() api.Place {
		return at(box.X-more+r.Intn(box.W+2*more+1), box.Y-more+r.Intn(box.H+2*more+1))
	}
	switch r.Intn(10) {
	case 0:
		return spanned(at(r.Intn(4096), r.Intn(4096)), at(r.Intn(4096), r.Intn(4096)))
	case 1:
		return spanned(at(box.X-r.Intn(3), box.Y-r.Intn(3)), at(box.X+box.W+r.Intn(3), box.Y+box.H+r.Intn(3)))
	case 2:
		p := inside()
		return spanned(p, at(p.X+r.Intn(3)*r.Intn(10), p.Y+r.Intn(3)*r.Intn(10)))
	}
	return spanned(inside(), inside())
}

// plainSide is the sign of the turn of valid places.
func plainSide(a, b, c api.Place) int {
	product := func(x, y int) *big.Int { return new(big.Int).Mul(big.NewInt(int64(x)), big.NewInt(int64(y))) }
	return product(b.X-a.X, c.Y-a.Y).Cmp(product(b.Y-a.Y, c.X-a.X))
}

// number is a whole number as a fraction.
func number(n int) *big.Rat { return big.NewRat(int64(n), 1) }

// sum, difference, product and quotient are those of two fractions.
func sum(x, y *big.Rat) *big.Rat        { return new(big.Rat).Add(x, y) }
func difference(x, y *big.Rat) *big.Rat { return new(big.Rat).Sub(x, y) }
func product(x, y *big.Rat) *big.Rat    { return new(big.Rat).Mul(x, y) }
func quotient(x, y *big.Rat) *big.Rat   { return new(big.Rat).Quo(x, y) }

// point is a point of the plane, whether it is a place or not.
type point struct{ x, y *big.Rat }

// pointOf is the point of a place.
func pointOf(p api.Place) point { return point{number(p.X), number(p.Y)} }

// onTheWay is what share of the way from a to b leads to.
func onTheWay(a, b point, share *big.Rat) point {
	return point{sum(a.x, product(share, difference(b.x, a.x))), sum(a.y, product(share, difference(b.y, a.y)))}
}

// plainDistance2 finds the nearest point as a share of the way from a to b, and returns the square of its distance.
func plainDistance2(p, a, b api.Place) *big.Rat {
	length := (b.X-a.X)*(b.X-a.X) + (b.Y-a.Y)*(b.Y-a.Y)
	share := new(big.Rat)
	if length > 0 {
		share.SetFrac64(int64((p.X-a.X)*(b.X-a.X)+(p.Y-a.Y)*(b.Y-a.Y)), int64(length))
	}
	if share.Sign() < 0 {
		share.SetInt64(0)
	}
	if share.Cmp(number(1)) > 0 {
		share.SetInt64(1)
	}
	nearest := onTheWay(pointOf(a), pointOf(b), share)
	x, y := difference(nearest.x, number(p.X)), difference(nearest.y, number(p.Y))
	return sum(product(x, x), product(y, y))
}

// isOn says whether p is on the segment from a to b.
func isOn(p, a, b api.Place) bool { return plainDistance2(p, a, b).Sign() == 0 }

// plainCross finds the one common point of two lines as a share of both ways. Of segments along parallel lines, an end of one is on the other if they have a common point.
func plainCross(a, b, c, d api.Place) bool {
	across := func(x, y api.Place) int { return x.X*y.Y - x.Y*y.X }
	one, other, between := at(b.X-a.X, b.Y-a.Y), at(d.X-c.X, d.Y-c.Y), at(c.X-a.X, c.Y-a.Y)
	slant := across(one, other)
	if slant == 0 {
		return isOn(a, c, d) || isOn(b, c, d) || isOn(c, a, b) || isOn(d, a, b)
	}
	isShare := func(n int) bool {
		share := big.NewRat(int64(n), int64(slant))
		return share.Sign() >= 0 && share.Cmp(number(1)) <= 0
	}
	return isShare(across(between, other)) && isShare(across(between, one))
}

// plainAround goes through all coordinates.
func plainAround(l []api.Place) api.Rect {
	var xs, ys []int
	for _, p := range l {
		xs, ys = append(xs, p.X), append(ys, p.Y)
	}
	x, y := slices.Min(xs), slices.Min(ys)
	return rect(x, y, slices.Max(xs)-x, slices.Max(ys)-y)
}

// once returns the places of a list, each of them once.
func once(l []api.Place) []api.Place {
	var all []api.Place
	for _, p := range l {
		if !slices.Contains(all, p) {
			all = append(all, p)
		}
	}
	return all
}

// isSpared says whether the hull of other places has p: then it is on a segment between two of them, or in a triangle of three.
func isSpared(p api.Place, others []api.Place) bool {
	for i, a := range others {
		for k, b := range others[:i] {
			if isBetween(p, a, b) {
				return true
			}
			for _, c := range others[:k] {
				one, two, three := plainSide(a, b, p), plainSide(b, c, p), plainSide(c, a, p)
				if one == two && two == three && one != 0 {
					return true
				}
			}
		}
	}
	return false
}

// isBetween says whether p is on the segment from a to b, without fractions.
func isBetween(p, a, b api.Place) bool {
	return plainSide(a, b, p) == 0 && min(a.X, b.X) <= p.X && p.X <= max(a.X, b.X) && min(a.Y, b.Y) <= p.Y && p.Y <= max(a.Y, b.Y)
}

// plainHull finds the corners as the places that cannot be spared, and goes around them.
func plainHull(l []api.Place) []api.Place {
	all := once(l)
	var corners []api.Place
	for i, p := range all {
		if !isSpared(p, append(slices.Clone(all[:i]), all[i+1:]...)) {
			corners = append(corners, p)
		}
	}
	first := corners[0]
	for _, p := range corners {
		if p.Y < first.Y || p.Y == first.Y && p.X < first.X {
			first = p
		}
	}
	ordered := []api.Place{first}
	for len(ordered) < len(corners) {
		ordered = append(ordered, following(corners, ordered[len(ordered)-1]))
	}
	return ordered
}

// following is the corner that all other ones are to the same side of, as seen from p.
func following(corners []api.Place, p api.Place) api.Place {
	for _, next := range corners {
		isNext := next != p
		for _, other := range corners {
			isNext = isNext && (other == p || other == next || plainSide(p, next, other) > 0)
		}
		if isNext {
			return next
		}
	}
	panic("no corner follows")
}

// plainArea2 is twice the area that a list of points goes around.
func plainArea2(l []point) *big.Rat {
	area := new(big.Rat)
	for i, p := range l {
		next := l[(i+1)%len(l)]
		area = sum(area, difference(product(p.x, next.y), product(p.y, next.x)))
	}
	return area
}

// pointsOf are the points of places.
func pointsOf(l []api.Place) []point {
	var points []point
	for _, p := range l {
		points = append(points, pointOf(p))
	}
	return points
}

// clipped is what is left of a convex polygon where a measure is not negative. The measure changes evenly along each line.
func clipped(l []point, measure func(point) *big.Rat) []point {
	var left []point
	for i, p := range l {
		next := l[(i+1)%len(l)]
		here, there := measure(p), measure(next)
		if here.Sign() >= 0 {
			left = append(left, p)
		}
		if here.Sign()*there.Sign() < 0 {
			left = append(left, onTheWay(p, next, quotient(here, difference(here, there))))
		}
	}
	return left
}

// plainCovered cuts off what is beyond each side of the rectangle, and measures what is left.
func plainCovered(l []api.Place, r api.Rect) *big.Rat {
	left := pointsOf(l)
	for _, measure := range []func(point) *big.Rat{
		func(p point) *big.Rat { return difference(p.x, number(r.X)) },
		func(p point) *big.Rat { return difference(number(r.X+r.W), p.x) },
		func(p point) *big.Rat { return difference(p.y, number(r.Y)) },
		func(p point) *big.Rat { return difference(number(r.Y+r.H), p.y) },
	} {
		left = clipped(left, measure)
	}
	return quotient(plainArea2(left), number(2))
}

// fractionOf is what a valid fraction of package rational is.
func fractionOf(t *testing.T, r api.Ratio) *big.Rat {
	t.Helper()
	num, ok := new(big.Int).SetString(r.Num, 10)
	den, fine := new(big.Int).SetString(r.Den, 10)
	if !ok || !fine || den.Sign() <= 0 {
		t.Fatalf("%v is no fraction", r)
	}
	return new(big.Rat).SetFrac(num, den)
}

// ratio is a fraction as package rational has it.
func ratio(x *big.Rat) api.Ratio { return api.Ratio{Num: x.Num().String(), Den: x.Denom().String()} }

// hull is what Hull says of places that it must take.
func hull(t *testing.T, l []api.Place) []api.Place {
	t.Helper()
	h, e := plane.Hull(l)
	if e != api.OK || len(h) == 0 {
		t.Fatalf("Hull(%v) = %v, %d", l, h, e)
	}
	return h
}

// covered is what Covered says of a polygon and a rectangle that it must take.
func covered(t *testing.T, l []api.Place, r api.Rect) *big.Rat {
	t.Helper()
	a, e := plane.Covered(l, r)
	if e != api.OK {
		t.Fatalf("Covered(%v, %v): %d", l, r, e)
	}
	return fractionOf(t, a)
}

// distance2 is what Distance2 says of places that it must take.
func distance2(t *testing.T, p, a, b api.Place) *big.Rat {
	t.Helper()
	d, e := plane.Distance2(p, a, b)
	if e != api.OK {
		t.Fatalf("Distance2(%v, %v, %v): %d", p, a, b, e)
	}
	return fractionOf(t, d)
}
