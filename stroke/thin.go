package stroke

import "slatewall/api"

// jump is how the first one of the shortest lists that begin with an index goes on: to which index, and how many indices it has in all.
type jump struct {
	to    int
	count int
}

// fewest returns, of the lists that say enough of a valid stroke with these dots, the first one of those with the fewest indices.
func fewest(dots []api.Dot, tolerance int) []int {
	jumps := jumpsOf(dots, tolerance)
	list := make([]int, jumps[0].count)
	for i := 1; i < len(list); i++ {
		list[i] = jumps[list[i-1]].to
	}
	return list
}

// jumpsOf returns the jump from each dot on. They are found backward: a shortest list goes on as a shortest list.
func jumpsOf(dots []api.Dot, tolerance int) [api.MaxDots]jump {
	var jumps [api.MaxDots]jump
	last := len(dots) - 1
	jumps[last].count = 1
	for behind := range last {
		i := last - 1 - behind
		// The dot behind it can always be next; a later one must be better, since of several lists the first one is wanted.
		jumps[i] = jump{to: i + 1, count: 1 + jumps[i+1].count}
		for to := i + 2; to <= last; to++ {
			if count := 1 + jumps[to].count; count < jumps[i].count && saysEnough(dots[i:to+1], tolerance) {
				jumps[i] = jump{to: to, count: count}
			}
		}
	}
	return jumps
}

// saysEnough says whether each dot between the first and the last one is near these two.
func saysEnough(dots []api.Dot, tolerance int) bool {
	last := len(dots) - 1
	for _, d := range dots[1:last] {
		if !isNear(place(dots[0]), place(dots[last]), place(d), tolerance) {
			return false
		}
	}
	return true
}
