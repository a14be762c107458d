package plane

import (
	"slatewall/api"
	"slatewall/rational"
)

// An area is as large as its fraction and its whole number together.
// Whole numbers are added apart, since adding fractions takes much longer, and what an edge has of a rectangle is whole more often than not.
type area struct {
	api.Ratio
	whole int
}

// nothing is an area that has no points.
func nothing() area { return area{Ratio: api.Ratio{Num: "0", Den: "1"}} }

// plus returns a and num divided by den, which is not 0.
func (a area) plus(num int, den int) area {
	if num%den == 0 {
		a.whole += num / den
		return a
	}
	part, _ := rational.Of(num, den)
	a.Ratio, _ = rational.Add(a.Ratio, part)
	return a
}

// minus returns a without num divided by den, which is not 0.
func (a area) minus(num int, den int) area { return a.plus(-num, den) }

// total returns all of a as one fraction.
func (a area) total() api.Ratio {
	whole, _ := rational.Of(a.whole, 1)
	all, _ := rational.Add(a.Ratio, whole)
	return all
}

// above returns the area of the points of r that are above a segment, as a numerator and a denominator that is not 0.
// All is valid, and X of left is at most that of right.
func above(left api.Place, right api.Place, r api.Rect) (int, int) {
	line := from(left, right)
	first, last := max(left.X, r.X), min(right.X, r.X+r.W)
	if first >= last {
		return 0, 1
	}
	// Depths are counted from the upper side of r on, in units that are as small as it takes for those of the segment to be whole.
	bottom := r.H * line.X
	depth := func(x int) int { return (left.Y-r.Y)*line.X + (x-left.X)*line.Y }
	if line.Y == 0 {
		return between(depth(first), 0, bottom) * (last - first), line.X
	}
	return filled(depth(last), bottom) - filled(depth(first), bottom), 2 * line.X * line.Y
}

// filled returns twice the integral, from the depth 0 to this one, of that part of each depth that is inside of r.
func filled(depth int, bottom int) int {
	inside := between(depth, 0, bottom)
	return inside * (2*depth - inside)
}
