package reading_test

import (
	"slices"
	"testing"

	"slatewall/api"
	"slatewall/reading"
)

// wantChecked checks what Check and Shapes say of any reading of some valid strokes, of which all runs are known, and says whether it is right.
func wantChecked(t *testing.T, l []api.Stroke, all table, r api.Reading) bool {
	t.Helper()
	person := 0
	if len(l) > 0 {
		person = l[0].Person
	}
	if !all.isRight(r, person) {
		wantWrong(t, l, r)
		return false
	}
	if s, e := reading.Shapes(l, r); !reading.Check(l, r) || e != api.OK || len(s) != len(r.Runs) {
		t.Errorf("%v is not right for %v: %v, %d", r, l, s, e)
	}
	return true
}

// P9.1: right and wrong readings of two strokes, by hand.
func TestCheck(t *testing.T) {
	l := []api.Stroke{line(1), hook(2)}
	good := api.Reading{Person: 3, Runs: runs(-3, 0), Least: []int{0, 6, 0}, Next: 6}
	for _, x := range []struct {
		ok     bool
		change func(r *api.Reading)
	}{
		{true, func(r *api.Reading) {}},
		{false, func(r *api.Reading) { r.Person = 0 }},
		{false, func(r *api.Reading) { r.Next = 5 }},
		{false, func(r *api.Reading) { r.Next = 7 }},
		{false, func(r *api.Reading) { r.Next = -1 }},
		{false, func(r *api.Reading) { r.Next = 0 }},
		// Lesser numbers prove as much, but for the first one and the last one.
		{true, func(r *api.Reading) { r.Least[1] = 5 }},
		{true, func(r *api.Reading) { r.Least[1] = 0 }},
		{false, func(r *api.Reading) { r.Least[1] = 7 }},
		{false, func(r *api.Reading) { r.Least[1] = -1 }},
		{false, func(r *api.Reading) { r.Least[0] = -1 }},
		{false, func(r *api.Reading) { r.Least[0] = 1 }},
		{false, func(r *api.Reading) { r.Least[2] = 1 }},
		{false, func(r *api.Reading) { r.Least[2] = -1 }},
		{false, func(r *api.Reading) { r.Least = nil }},
		{false, func(r *api.Reading) { r.Least = []int{0} }},
		{false, func(r *api.Reading) { r.Least = []int{0, 0} }},
		{false, func(r *api.Reading) { r.Least = []int{0, 6, 0, 0} }},
		// Other sequences cost more, whatever is said of them.
		{false, func(r *api.Reading) { r.Runs = nil }},
		{false, func(r *api.Reading) { r.Runs = runs(1, 0, 1, 6) }},
		{false, func(r *api.Reading) { r.Runs = runs(1, 0, 1, 0) }},
		{false, func(r *api.Reading) { r.Runs, r.Least[0] = runs(1, 0, 1, 6), 6 }},
		{false, func(r *api.Reading) { r.Runs, r.Least[0], r.Next = runs(1, 0, 1, 6), 6, 0 }},
		{false, func(r *api.Reading) { r.Runs = runs(1, 0) }},
		{false, func(r *api.Reading) { r.Runs = runs(-1, 500) }},
		{false, func(r *api.Reading) { r.Runs = runs(-1, 0) }},
		{false, func(r *api.Reading) { r.Runs = runs(-4, 8) }},
		{false, func(r *api.Reading) { r.Runs = runs(-3, 1) }},
		{false, func(r *api.Reading) { r.Runs = runs(-3, -1) }},
		{false, func(r *api.Reading) { r.Runs = runs(-3, 0, 1, 0) }},
		{false, func(r *api.Reading) { r.Runs = append(r.Runs, api.Run{From: 2, To: 2}) }},
		{false, func(r *api.Reading) { r.Runs = append(r.Runs, api.Run{From: 2, To: 2, Kind: 1}) }},
		{false, func(r *api.Reading) { r.Runs = append([]api.Run{{}}, r.Runs...) }},
		{false, func(r *api.Reading) { r.Runs = []api.Run{{From: 0, To: 2, Kind: 0}} }},
		{false, func(r *api.Reading) { r.Runs = []api.Run{{From: 0, To: 2, Kind: 6}} }},
		{false, func(r *api.Reading) { r.Runs = []api.Run{{From: 1, To: 2, Kind: 1, Cost: 6}} }},
		{false, func(r *api.Reading) {
			r.Runs = []api.Run{{From: 1, To: 2, Kind: 1, Cost: 6}, {From: 0, To: 1, Kind: 1}}
		}},
		{false, func(r *api.Reading) { r.Runs = make([]api.Run, 100000) }},
	} {
		r := cloned(good)
		x.change(&r)
		if ok := wantChecked(t, l, tableOf(l), r); ok != x.ok || reading.Same(r, good) != isSame(r, good) {
			t.Errorf("%v is right: %t", r, ok)
		}
	}
}

// P9.1: another kind, or another sequence, for the same cost is right, too.
func TestCheckTies(t *testing.T) {
	one := []api.Stroke{narrow(1)}
	for kind, ok := range map[int]bool{api.SLine: true, api.SLetter: true, api.SBox: false, api.SMark: false} {
		r := api.Reading{Person: 3, Runs: runs(kind, 6), Least: []int{6, 0}, Next: 6}
		if wantChecked(t, one, tableOf(one), r) != ok {
			t.Errorf("as %d, it is right: %t", kind, !ok)
		}
	}
	two := []api.Stroke{narrow(1), narrow(2)}
	for _, l := range [][]api.Run{runs(1, 6, 1, 6), runs(4, 6, 1, 6), runs(1, 6, 4, 6), runs(4, 6, 4, 6), runs(-4, 12)} {
		r := api.Reading{Person: 3, Runs: l, Least: []int{12, 6, 0}, Next: 12}
		if !wantChecked(t, two, tableOf(two), r) {
			t.Errorf("%v is not right", r)
		}
		r.Next = 13
		if wantChecked(t, two, tableOf(two), r) {
			t.Errorf("%v is right", r)
		}
		// A lesser number than that for one stroke alone forbids none of them; but the sums of the first one do.
		r.Next, r.Least[1] = 12, 5
		if wantChecked(t, two, tableOf(two), r) {
			t.Errorf("%v is right", r)
		}
	}
}

// P9.1: of no strokes, one reading alone is right.
func TestCheckNone(t *testing.T) {
	good := api.Reading{Least: []int{0}, Next: -1}
	for _, l := range [][]api.Stroke{nil, {}} {
		if !wantChecked(t, l, nil, good) {
			t.Error("it is not right")
		}
		for _, r := range []api.Reading{{}, {Next: -1}, {Least: []int{0}}, {Least: []int{1}, Next: -1}, {Least: []int{-1}, Next: -1}, {Least: []int{0, 0}, Next: -1}, {Person: 1, Least: []int{0}, Next: -1}, {Runs: []api.Run{{}}, Least: []int{0}, Next: -1}, {Runs: []api.Run{{To: 1, Kind: 1}}, Least: []int{0}, Next: -1}} {
			if wantChecked(t, l, nil, r) {
				t.Errorf("%v is right", r)
			}
		}
	}
}

// P9.1: all numbers that may be said to be the least ones.
func TestCheckLeast(t *testing.T) {
	l := []api.Stroke{line(1), hook(2), dot(3)}
	all := tableOf(l)
	good, right := read(t, l), 0
	for a := -2; a < 20; a++ {
		for b := -2; b < 20; b++ {
			for c := -2; c < 20; c++ {
				for d := -1; d < 2; d++ {
					r := cloned(good)
					copy(r.Least, []int{a, b, c, d})
					if wantChecked(t, l, all, r) {
						right++
					}
				}
			}
		}
	}
	// The first number is 7, for which the third one must be 7, and the second one at least as much; it is at most 10.
	if right != 4 {
		t.Errorf("%d are right", right)
	}
}

// P9.1: changed readings of any strokes.
func TestCheckAny(t *testing.T) {
	r := source()
	right, wrong := 0, 0
	for i := range 150 {
		count := r.Intn(6)
		if i%30 == 0 {
			count = 60
		}
		l := anyStrokes(r, count)
		all, good := tableOf(l), read(t, l)
		list := changes(good)
		for k, change := range list {
			if count == 60 && k%25 > 0 {
				continue
			}
			x := cloned(good)
			change(&x)
			if r.Intn(10) == 0 {
				list[r.Intn(6)](&x)
			}
			if wantChecked(t, l, all, x) {
				right++
			} else {
				wrong++
			}
		}
	}
	if right < 100 || wrong < 3000 {
		t.Errorf("only %d are right, and %d wrong", right, wrong)
	}
}

// P9.1: what is right for some strokes is not for the same ones in another order, for others, or without one.
func TestCheckOthers(t *testing.T) {
	r := source()
	for range 200 {
		l := anyStrokes(r, 1+r.Intn(6))
		x := read(t, l)
		i := r.Intn(len(l))
		others := [][]api.Stroke{nil, slices.Delete(slices.Clone(l), i, i+1), slices.Insert(slices.Clone(l), i, anyNew(l)), slices.Clone(l), slices.Clone(l)}
		slices.Reverse(others[3])
		for k := range l {
			others[4][k].Person = (l[k].Person + 1) % api.MaxPersons
		}
		for _, other := range others {
			wantChecked(t, other, tableOf(other), x)
		}
	}
}

// anyNew is a line of the same person, with a number that none has.
func anyNew(l []api.Stroke) api.Stroke {
	s := line(1)
	s.Person = l[0].Person
	for slices.ContainsFunc(l, func(other api.Stroke) bool { return other.Number == s.Number }) {
		s.Number++
	}
	return s
}
