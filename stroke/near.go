package stroke

import "slatewall/api"

// place is where a dot is.
func place(d api.Dot) api.Place { return api.Place{X: d.X, Y: d.Y} }

// onBoard says whether p is on the board.
func onBoard(p api.Place) bool {
	return isFrom(p.X, 0, api.MaxPlace) && isFrom(p.Y, 0, api.MaxPlace)
}

// pieces yields the ends of each piece of a valid stroke. One dot alone is both ends of a piece.
func pieces(s api.Stroke) func(func(api.Place, api.Place) bool) {
	last := len(s.Dots) - 1
	return func(yield func(api.Place, api.Place) bool) {
		for i := range max(1, last) {
			if !yield(place(s.Dots[i]), place(s.Dots[min(i+1, last)])) {
				return
			}
		}
	}
}

// from returns by how much X and Y of b are greater than those of a.
func from(a api.Place, b api.Place) api.Place { return api.Place{X: b.X - a.X, Y: b.Y - a.Y} }

// along returns the product of the lengths of two differences, times the cosine of the angle between them.
func along(a api.Place, b api.Place) int { return a.X*b.X + a.Y*b.Y }

// across returns the product of the lengths of two differences, times the sine of the angle between them.
func across(a api.Place, b api.Place) int { return a.X*b.Y - a.Y*b.X }

// isNear says whether p is near a and b. The places are on the board, so that no product comes near to the bounds of an int.
func isNear(a api.Place, b api.Place, p api.Place, tolerance int) bool {
	line, before, behind := from(a, b), from(a, p), from(b, p)
	most := tolerance * tolerance
	if along(line, before) <= 0 {
		return along(before, before) <= most
	}
	if along(line, behind) >= 0 {
		return along(behind, behind) <= most
	}
	// The distance to the line is a fraction, whose square has that of the length as its denominator.
	side := across(line, before)
	return side*side <= most*along(line, line)
}
