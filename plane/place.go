package plane

import "slatewall/api"

// isFrom says whether n is from least to greatest.
func isFrom(n int, least int, greatest int) bool { return least <= n && n <= greatest }

// between returns what is nearest to n of the numbers from least to greatest.
func between(n int, least int, greatest int) int { return min(max(n, least), greatest) }

// sign returns 1, 0 or -1, as n is greater than, equal to, or less than 0.
func sign(n int) int { return between(n, -1, 1) }

// areValid says whether all of the places are on the board.
func areValid(places ...api.Place) bool {
	for _, p := range places {
		if !ValidPlace(p) {
			return false
		}
	}
	return true
}

// isList says whether l has as many places as a polygon can have, all of them on the board.
func isList(l []api.Place) bool {
	return isFrom(len(l), 1, api.MaxCorners) && areValid(l...)
}

// from returns by how much X and Y of b are greater than those of a.
func from(a api.Place, b api.Place) api.Place { return api.Place{X: b.X - a.X, Y: b.Y - a.Y} }

// along returns the product of the lengths of two differences, times the cosine of the angle between them.
func along(a api.Place, b api.Place) int { return a.X*b.X + a.Y*b.Y }

// across returns the product of the lengths of two differences, times the sine of the angle between them.
func across(a api.Place, b api.Place) int { return a.X*b.Y - a.Y*b.X }

// isBefore says whether X or Y of a is less than that of b.
func isBefore(a api.Place, b api.Place) bool { return a.X < b.X || a.Y < b.Y }

// upperLeft returns the corner of r with the least X and Y.
func upperLeft(r api.Rect) api.Place { return api.Place{X: r.X, Y: r.Y} }

// lowerRight returns the corner of r with the greatest X and Y.
func lowerRight(r api.Rect) api.Place { return api.Place{X: r.X + r.W, Y: r.Y + r.H} }

// around returns the least rectangle that has all of the places, of which there is one at least.
func around(places ...api.Place) api.Rect {
	least, most := places[0], places[0]
	for _, p := range places {
		least = api.Place{X: min(least.X, p.X), Y: min(least.Y, p.Y)}
		most = api.Place{X: max(most.X, p.X), Y: max(most.Y, p.Y)}
	}
	size := from(least, most)
	return api.Rect{X: least.X, Y: least.Y, W: size.X, H: size.Y}
}
