package template

import (
	"slatewall/api"
	"slatewall/stroke"
)

// compass has the directions as they lie around a place, which is in the middle.
var compass = [3][3]int{
	{5, 6, 7},
	{4, 0, 0},
	{3, 2, 1},
}

// direction returns the direction from a to b: to the right, if they are the same.
func direction(a api.Place, b api.Place) int {
	x, y := b.X-a.X, b.Y-a.Y
	return compass[1+lean(y, x)][1+lean(x, y)]
}

// lean returns 1 or -1, as n is positive or negative; 0, if it is at most half of the other difference in size.
func lean(n int, other int) int {
	switch {
	case 2*size(n) <= size(other):
		return 0
	case n < 0:
		return -1
	}
	return 1
}

// size returns n without its sign.
func size(n int) int { return max(n, -n) }

// isNear says whether X and Y of two places differ by at most TNear.
func isNear(a api.Place, b api.Place) bool {
	return size(b.X-a.X) <= api.TNear && size(b.Y-a.Y) <= api.TNear
}

// onBoard says whether p is on the board.
func onBoard(p api.Place) bool {
	return isFrom(p.X, 0, api.MaxPlace) && isFrom(p.Y, 0, api.MaxPlace)
}

// featureOf returns the feature of a valid stroke, of which the dots with the indices in kept are its places.
func featureOf(s api.Stroke, kept []int) api.Feature {
	places, steps := make([]api.Place, len(kept)), make([]int, len(kept)-1)
	for i, k := range kept {
		places[i] = api.Place{X: s.Dots[k].X, Y: s.Dots[k].Y}
		if i > 0 {
			steps[i-1] = direction(places[i-1], places[i])
		}
	}
	closed := len(places) >= 4 && isNear(places[0], places[len(places)-1])
	return api.Feature{Places: places, Steps: steps, Closed: closed}
}

// features returns the features of readable strokes.
func features(l []api.Stroke) []api.Feature {
	looks := make([]api.Feature, len(l))
	for i, s := range l {
		looks[i], _ = Look(s)
	}
	return looks
}

// around returns the least rectangle around all dots of readable strokes.
func around(l []api.Stroke) api.Rect {
	box := func(i int) api.Rect {
		r, _ := stroke.Box(l[i])
		return r
	}
	return combined(len(l), box, func(a api.Rect, b api.Rect) api.Rect {
		x, y := min(a.X, b.X), min(a.Y, b.Y)
		return api.Rect{X: x, Y: y, W: max(a.X+a.W, b.X+b.W) - x, H: max(a.Y+a.H, b.Y+b.H) - y}
	})
}

// combined returns what join makes, one after the other, of what each says of so many strokes; there is at least one.
func combined[T any](count int, each func(int) T, join func(T, T) T) T {
	all := each(0)
	for i := 1; i < count; i++ {
		all = join(all, each(i))
	}
	return all
}
