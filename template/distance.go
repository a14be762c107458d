package template

import "slatewall/api"

// areDirections says whether l is a list of directions that is not too long.
func areDirections(l []int) bool {
	if len(l) > api.MaxDots {
		return false
	}
	for _, d := range l {
		if !isFrom(d, 0, 7) {
			return false
		}
	}
	return true
}

// turn returns the number of eighths of a turn between two directions, the shorter way around.
func turn(a int, b int) int {
	eighths := size(a - b)
	return min(eighths, 8-eighths)
}

// distance returns the distance of two lists of at most MaxDots directions.
func distance(a []int, b []int) int {
	// The row of the beginning of a up to some direction has, for each length, the distance from the beginning of b with this length.
	var row [api.MaxDots + 1]int
	for k := range b {
		row[k+1] = row[k] + api.TStep
	}
	for _, from := range a {
		// Each row is written over the one before it; before is what was left of what is written next.
		before := row[0]
		row[0] += api.TStep
		for k, to := range b {
			exchanged, other := before+turn(from, to), min(row[k], row[k+1])+api.TStep
			before, row[k+1] = row[k+1], min(exchanged, other)
		}
	}
	return row[len(b)]
}
