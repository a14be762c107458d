package stamp

import "slatewall/api"

// areSkews says whether skews are valid.
func areSkews(skews []api.Skew) bool {
	least := 0
	for _, s := range skews {
		if !isFrom(s.Person, least, api.MaxPersons-1) || s.Low < -api.MaxSkew || s.Low > s.High || s.High > api.MaxSkew {
			return false
		}
		least = s.Person + 1
	}
	return true
}

// areMeets says whether meets are valid for skews.
func areMeets(meets []api.Meet, skews []api.Skew) bool {
	if len(meets) > api.MaxMeets {
		return false
	}
	for _, m := range meets {
		_, isA := skewOf(skews, m.A)
		_, isB := skewOf(skews, m.B)
		if m.A == m.B || !isA || !isB || !isTime(m.AtA) || !isTime(m.AtB) {
			return false
		}
	}
	return true
}

// skewOf returns the skew of a person, or false if there is none.
func skewOf(skews []api.Skew, person int) (api.Skew, bool) {
	for _, s := range skews {
		if s.Person == person {
			return s, true
		}
	}
	return api.Skew{}, false
}

// isTold says whether s is valid, and has a time by a clock with a skew.
func isTold(skews []api.Skew, s api.Stamp) bool {
	_, ok := skewOf(skews, s.Person)
	return ok && Valid(s)
}

// byPerson returns the bounds of the advance of each person.
func byPerson(skews []api.Skew) map[int]api.Skew {
	bounds := map[int]api.Skew{}
	for _, s := range skews {
		bounds[s.Person] = s
	}
	return bounds
}

// sides yields each meeting in both directions: two persons, and by how much the clock of the first one was ahead of that of the second one.
func sides(meets []api.Meet) func(func([2]int, int) bool) {
	return func(yield func([2]int, int) bool) {
		for _, m := range meets {
			ahead := m.AtA - m.AtB
			if !yield([2]int{m.A, m.B}, ahead) || !yield([2]int{m.B, m.A}, -ahead) {
				return
			}
		}
	}
}

// narrowed changes bounds to the least and the greatest advances that are possible for the meetings, and says whether any are.
// The bounds and the meetings are valid.
func narrowed(bounds map[int]api.Skew, meets []api.Meet) bool {
	// A bound comes to a person from another one along different persons, unless nothing is possible: then it can grow for ever.
	for range len(bounds) {
		if !passedOn(bounds, meets) {
			break
		}
	}
	return areLeastPossible(bounds, meets)
}

// passedOn narrows the bounds of the persons of each meeting by each other's, and says whether any have changed.
func passedOn(bounds map[int]api.Skew, meets []api.Meet) bool {
	changed := false
	for pair, ahead := range sides(meets) {
		own, other := bounds[pair[0]], bounds[pair[1]]
		narrow := api.Skew{Person: own.Person, Low: max(own.Low, other.Low+ahead), High: min(own.High, other.High+ahead)}
		changed = changed || narrow != own
		bounds[pair[0]] = narrow
	}
	return changed
}

// areLeastPossible says whether the least advances within bounds are possible for the meetings. After bounds were narrowed, they are if any are.
func areLeastPossible(bounds map[int]api.Skew, meets []api.Meet) bool {
	for pair, ahead := range sides(meets) {
		own, other := bounds[pair[0]], bounds[pair[1]]
		if own.Low > own.High || own.Low-other.Low != ahead {
			return false
		}
	}
	return true
}

// first returns the least number from 0 on for which is says true. It says so for last, and for each number that is greater than another one for which it does.
func first(last int, is func(int) bool) int {
	least := 0
	for least < last {
		middle := (least + last) / 2
		if is(middle) {
			last = middle
		} else {
			least = middle + 1
		}
	}
	return least
}

// isEarlier says whether a was made earlier than b for all possible advances. The skews are those that are known after the meetings.
func isEarlier(tight []api.Skew, meets []api.Meet, a api.Stamp, b api.Stamp) bool {
	// It was, if it was even when a was made as late, and b then as early, as can be. Who has met, if by others only, has the same difference always.
	bounds := byPerson(tight)
	latest := bounds[a.Person]
	latest.High = latest.Low
	bounds[a.Person] = latest
	narrowed(bounds, meets)
	return a.At-latest.Low < b.At-bounds[b.Person].High
}
