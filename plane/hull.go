package plane

import "slatewall/api"

// edges yields the ends of each edge of a polygon, around. One place alone is both ends of an edge.
func edges(l []api.Place) func(func(api.Place, api.Place) bool) {
	return func(yield func(api.Place, api.Place) bool) {
		for i, a := range l {
			if !yield(a, l[(i+1)%len(l)]) {
				return
			}
		}
	}
}

// hull returns the hull of valid places, of which there is one at least.
func hull(l []api.Place) []api.Place {
	there := sorted(l)
	if len(there) == 1 {
		return there
	}
	turns := func(a api.Place, b api.Place, c api.Place) bool { return Side(a, b, c) > 0 }
	down, up := chain(there, turns), chain(reversed(there), turns)
	// Each of the two sides ends with what the other one begins with.
	return append(down[:len(down)-1], up[:len(up)-1]...)
}

// isConvex says whether l is a convex polygon.
func isConvex(l []api.Place) bool {
	if !isList(l) {
		return false
	}
	corners := hull(l)
	if len(corners) != len(l) {
		return false
	}
	for i, p := range corners {
		if p != l[i] {
			return false
		}
	}
	return true
}

// chain returns the elements of l without those that do not fit between what is kept before them and what follows.
// The first and the last one are always kept.
func chain[T any](l []T, fits func(before T, element T, next T) bool) []T {
	var kept []T
	for _, next := range l {
		last := len(kept) - 1
		for last > 0 && !fits(kept[last-1], kept[last], next) {
			last--
		}
		kept = append(kept[:last+1], next)
	}
	return kept
}

// sorted returns the places of l by Y, then by X, each of them once.
func sorted(l []api.Place) []api.Place {
	var all []api.Place
	for _, p := range l {
		i := len(all)
		for i > 0 && isLess(p, all[i-1]) {
			i--
		}
		if i == 0 || all[i-1] != p {
			all = append(all, p)
			copy(all[i+1:], all[i:])
			all[i] = p
		}
	}
	return all
}

// isLess says whether a has a lesser Y than b, or the same one and a lesser X.
func isLess(a api.Place, b api.Place) bool {
	return a.Y < b.Y || a.Y == b.Y && a.X < b.X
}

// reversed returns the elements of l, the last one first.
func reversed[T any](l []T) []T {
	var back []T
	for i := range l {
		back = append(back, l[len(l)-1-i])
	}
	return back
}
