package stamp_test

import (
	"math"
	"testing"

	"slatewall/api"
	"slatewall/stamp"
)

// P6.1: the chapter's examples.
func TestExamples(t *testing.T) {
	skews, met := example(), []api.Meet{meet(1, 108, 2, 100)}
	wantTight(t, skews, met, []api.Skew{skew(1, 3, 10), skew(2, -5, 2)}, -1)
	wantWhen(t, skews, 1, 100, 90, 101)
	wantOrder(t, skews, nil, at(110, 1, 1), at(103, 2, 1), 0)
	wantOrder(t, skews, met, at(110, 1, 1), at(103, 2, 1), -1)
	wantTight(t, skews, append(met, meet(1, 200, 2, 201)), nil, 1)
}

// badSkews are skews that are not valid.
func badSkews() [][]api.Skew {
	return [][]api.Skew{
		{skew(2, 0, 1), skew(1, 0, 1)},
		{skew(1, 0, 1), skew(1, 0, 1)},
		{skew(1, 0, 1), skew(5, 0, 1), skew(5, 0, 1)},
		{skew(1, 0, 1), skew(5, 0, 1), skew(4, 0, 1)},
		{skew(-1, 0, 1)},
		{skew(1, 0, 1), skew(40, 0, 1)},
		{skew(40, 0, 1)},
		{skew(math.MinInt, 0, 1)},
		{skew(math.MaxInt, 0, 1), skew(1, 0, 1)},
		{skew(1, 0, 1), skew(2, 1, 0)},
		{skew(1, 7, 6), skew(2, 0, 1)},
		{skew(1, -100001, 0)},
		{skew(1, 0, 100001)},
		{skew(1, 100001, 100001)},
		{skew(1, -100001, -100001)},
		{skew(1, math.MinInt, math.MaxInt)},
		{skew(1, 0, 1), skew(2, 0, 1), skew(3, 0, math.MaxInt)},
		append(chain(0, 0), skew(40, 0, 0)),
		append(chain(0, 0), skew(39, 0, 0)),
	}
}

// P6.1: Proper of skews at their limits, and beyond; no function takes skews that are not valid.
func TestSkews(t *testing.T) {
	for _, l := range [][]api.Skew{
		nil, {}, {skew(0, 0, 0)}, {skew(39, -100000, 100000)}, {skew(0, 0, 1), skew(39, 0, 1)}, {skew(5, 100000, 100000), skew(6, -100000, -100000)},
		{skew(5, -3, -3)}, example(), chain(-100000, 100000), chain(4, 4),
	} {
		if !stamp.Proper(l, nil) || !stamp.Proper(l, []api.Meet{}) {
			t.Errorf("Proper(%v)", l)
		}
		wantTight(t, l, nil, l, -1)
	}
	for _, l := range badSkews() {
		if stamp.Proper(l, nil) {
			t.Errorf("Proper(%v)", l)
		}
		if got, i, e := stamp.Tight(l, nil); e != api.ErrStamp || i != 0 || len(got) != 0 {
			t.Errorf("Tight(%v) = %v, %d, %d", l, got, i, e)
		}
		for _, s := range l {
			wantNoWhen(t, l, s.Person, 5)
		}
		wantNoOrder(t, l, nil, at(5, 1, 1), at(5, 1, 1))
	}
}

// P6.1: Proper of meetings at their limits, and beyond; Tight and Order do not take meetings that are not valid, wherever they are.
func TestMeets(t *testing.T) {
	skews := []api.Skew{skew(0, 0, 10), skew(5, -5, 5), skew(39, 0, 0)}
	good := [][]api.Meet{
		{meet(0, 0, 39, 0)}, {meet(39, 1000000, 0, 1000000)}, {meet(0, 0, 5, 1000000)}, {meet(5, 1000000, 0, 0)},
		{meet(0, 7, 5, 7), meet(5, 7, 39, 7), meet(0, 7, 5, 7)}, manyMeets(60),
	}
	for _, m := range good {
		if !stamp.Proper(skews, m) {
			t.Errorf("not Proper(%v)", m)
		}
	}
	bad := []api.Meet{
		meet(0, 7, 0, 7), meet(5, 7, 5, 8), meet(0, 7, 4, 7), meet(4, 7, 0, 7), meet(4, 7, 3, 7), meet(-1, 7, 0, 7), meet(0, 7, 40, 7), meet(math.MaxInt, 7, math.MinInt, 7),
		meet(0, -1, 5, 7), meet(0, 7, 5, -1), meet(0, 1000001, 5, 7), meet(0, 7, 5, 1000001), meet(0, math.MinInt, 5, math.MaxInt), {},
	}
	wrong := [][]api.Meet{manyMeets(61), manyMeets(100000)}
	for _, m := range bad {
		for i := range 3 {
			l := manyMeets(3)
			l[i] = m
			wrong = append(wrong, l)
		}
	}
	for _, m := range wrong {
		if stamp.Proper(skews, m) {
			t.Errorf("Proper(%.200v)", m)
		}
		if got, i, e := stamp.Tight(skews, m); e != api.ErrStamp || i != 0 || len(got) != 0 {
			t.Errorf("Tight(%.200v) = %v, %d, %d", m, got, i, e)
		}
		wantNoOrder(t, skews, m, at(5, 0, 1), at(5, 5, 1))
	}
	if stamp.Proper(nil, manyMeets(1)) {
		t.Error("a meeting without skews")
	}
}

// manyMeets are so many meetings of 0 and 5, all of which can be true.
func manyMeets(n int) []api.Meet {
	var l []api.Meet
	for i := range n {
		l = append(l, meet(0, i, 5, i))
	}
	return l
}

// P6.1: Tight of one advance, of a difference at the limits of skews and beyond, and of persons who have not met.
func TestTight(t *testing.T) {
	skews := append(example(), skew(7, 100, 100))
	tight := func(n ...int) []api.Skew {
		return []api.Skew{skew(1, n[0], n[1]), skew(2, n[2], n[3]), skew(7, 100, 100)}
	}
	for _, c := range []struct {
		meets []api.Meet
		want  []api.Skew
		wrong int
	}{
		{nil, skews, -1},
		{[]api.Meet{meet(2, 100, 1, 108)}, tight(3, 10, -5, 2), -1},
		{[]api.Meet{meet(1, 108, 2, 100), meet(2, 300, 1, 308)}, tight(3, 10, -5, 2), -1},
		{[]api.Meet{meet(1, 100, 2, 100)}, tight(0, 5, 0, 5), -1},
		{[]api.Meet{meet(1, 115, 2, 100)}, tight(10, 10, -5, -5), -1},
		{[]api.Meet{meet(1, 116, 2, 100)}, nil, 0},
		{[]api.Meet{meet(1, 100, 2, 105)}, tight(0, 0, 5, 5), -1},
		{[]api.Meet{meet(1, 100, 2, 106)}, nil, 0},
		{[]api.Meet{meet(7, 300, 1, 205)}, tight(5, 5, -5, 5), -1},
		{[]api.Meet{meet(7, 300, 1, 205), meet(2, 10, 1, 18)}, tight(5, 5, -3, -3), -1},
		{[]api.Meet{meet(7, 300, 1, 205), meet(2, 10, 1, 21)}, nil, 1},
	} {
		wantTight(t, skews, c.meets, c.want, c.wrong)
	}
	wantTight(t, []api.Skew{skew(3, 5, 5)}, nil, []api.Skew{skew(3, 5, 5)}, -1)
	wide := []api.Skew{skew(3, -100000, 100000), skew(4, -100000, 100000)}
	wantTight(t, wide, []api.Meet{meet(3, 200000, 4, 0)}, []api.Skew{skew(3, 100000, 100000), skew(4, -100000, -100000)}, -1)
	wantTight(t, wide, []api.Meet{meet(3, 200001, 4, 0)}, nil, 0)
	wantTight(t, wide, []api.Meet{meet(3, 0, 4, 1000000)}, nil, 0)
}

// along returns meetings of each person with the next one, in this direction of persons and of the list. The clock of each person is one more ahead.
func along(down bool, turned bool) []api.Meet {
	var l []api.Meet
	for p := range api.MaxPersons - 1 {
		if down {
			p = api.MaxPersons - 2 - p
		}
		if turned {
			l = append(l, meet(p+1, 500+p+1, p, 500+p))
		} else {
			l = append(l, meet(p, 500+p, p+1, 500+p+1))
		}
	}
	return l
}

// P6.1: what one meeting tells comes to all persons, however the meetings stand in the list.
func TestTightAlongAll(t *testing.T) {
	for _, down := range []bool{false, true} {
		for _, turned := range []bool{false, true} {
			for _, known := range []int{0, 17, 39} {
				skews := chain(-1000, 1000)
				skews[known] = skew(known, 30, 40)
				var want []api.Skew
				for p := range api.MaxPersons {
					want = append(want, skew(p, 30+p-known, 40+p-known))
				}
				wantTight(t, skews, along(down, turned), want, -1)
				wantOrder(t, skews, along(down, turned), at(200, 0, 1), at(239, 39, 1), 0)
				wantOrder(t, skews, along(down, turned), at(200, 0, 1), at(240, 39, 1), -1)
				wantOrder(t, skews, along(down, turned), at(200, 0, 1), at(238, 39, 1), 1)
			}
		}
	}
}

// P6.1: a meeting that contradicts all others together is named, at each index of the list.
func TestContradictions(t *testing.T) {
	skews := chain(-100000, 100000)
	circle := append(along(false, false), meet(39, 539, 0, 500))
	wantTight(t, skews, circle, crowdOf(t, skews, circle), -1)
	for more := range 3 {
		for i := range circle {
			// All of the circle, the wrong one last, then true ones up to 60.
			l := append(append([]api.Meet(nil), circle[i+1:]...), circle[:i+1]...)
			last := len(l) - 1
			l[last].AtB += more - 1
			l = append(l, circle...)[:60]
			if more == 1 {
				wantTight(t, skews, l, crowdOf(t, skews, l), -1)
			} else {
				wantTight(t, skews, l, nil, last)
			}
		}
	}
	for wrong := range 60 {
		l := make([]api.Meet, 60)
		for i := range l {
			l[i] = meet(1, 108, 2, 100)
		}
		l[wrong] = meet(2, 101, 1, 108)
		index := max(wrong, 1)
		wantTight(t, example(), l, nil, index)
		l[59] = meet(2, 106, 1, 100)
		wantTight(t, example(), l, nil, index)
		l[wrong] = meet(1, 116, 2, 100)
		wantTight(t, example(), l, nil, wrong)
		wantNoOrder(t, example(), l, at(5, 1, 1), at(6, 1, 1))
	}
}

// crowdOf is what Tight must say of meetings that can be.
func crowdOf(t *testing.T, skews []api.Skew, meets []api.Meet) []api.Skew {
	t.Helper()
	l, wrong := crowdTight(skews, meets)
	if wrong >= 0 {
		t.Fatalf("%v, %v: meeting %d", skews, meets, wrong)
	}
	return l
}

// P6.1: When at the limits of clocks and skews, and of persons without a skew.
func TestWhen(t *testing.T) {
	skews := []api.Skew{skew(0, -100000, 100000), skew(7, 100, 100), skew(39, -3, -2)}
	wantWhen(t, skews, 0, 0, -100000, 100001)
	wantWhen(t, skews, 0, 1000000, 900000, 1100001)
	wantWhen(t, skews, 7, 100, 0, 1)
	wantWhen(t, skews, 7, 0, -100, -99)
	wantWhen(t, skews, 39, 1000000, 1000002, 1000004)
	for _, clock := range []int{-1, 1000001, math.MinInt, math.MaxInt} {
		wantNoWhen(t, skews, 7, clock)
	}
	for _, person := range []int{-1, 1, 38, 40, math.MinInt, math.MaxInt} {
		wantNoWhen(t, skews, person, 100)
		wantNoWhen(t, nil, person, 100)
	}
}

// P6.1: Order of one person, of a time more or less than what is certain, with equal true times, and at the limits of clocks.
func TestOrder(t *testing.T) {
	skews, met := append(example(), skew(7, 100, 100)), []api.Meet{meet(1, 108, 2, 100)}
	for _, c := range []struct {
		meets  []api.Meet
		atA, a int
		atB, b int
		want   int
	}{
		{nil, 97, 1, 103, 2, -1}, {nil, 98, 1, 103, 2, 0}, {nil, 118, 1, 103, 2, 0}, {nil, 119, 1, 103, 2, 1},
		{met, 110, 1, 103, 2, -1}, {met, 111, 1, 103, 2, 0}, {met, 112, 1, 103, 2, 1},
		{nil, 5, 1, 6, 1, -1}, {nil, 5, 1, 5, 1, 0}, {met, 7, 1, 6, 1, 1},
		{met, 189, 7, 100, 1, -1}, {met, 190, 7, 100, 1, 0}, {met, 197, 7, 100, 1, 0}, {met, 198, 7, 100, 1, 1},
		{nil, 0, 1, 1000000, 2, -1}, {nil, 0, 1, 0, 2, 0}, {nil, 1000000, 2, 1000000, 1, 0}, {nil, 0, 2, 1000000, 2, -1},
	} {
		wantOrder(t, skews, c.meets, at(c.atA, c.a, 999), at(c.atB, c.b, 1), c.want)
	}
	wantOrder(t, skews, nil, at(5, 1, 3), at(5, 1, 3), 0)
	// Both bounds of either clock count.
	far := []api.Skew{skew(1, -100000, 100000), skew(2, -100000, 100000)}
	wantOrder(t, far, nil, at(0, 1, 1), at(200000, 2, 1), 0)
	wantOrder(t, far, nil, at(0, 1, 1), at(200001, 2, 1), -1)
}

// P6.1: Order refuses stamps that are not valid, persons without a skew, and meetings that cannot be.
func TestNoOrder(t *testing.T) {
	met := []api.Meet{meet(1, 108, 2, 100)}
	for _, bad := range []api.Stamp{{}, at(5, 3, 1), at(5, 0, 1), at(5, -1, 1), at(5, 40, 1), at(-1, 1, 1), at(1000001, 1, 1), at(5, 1, 0), at(5, 1, 1000), at(math.MinInt, 1, 1), at(math.MaxInt, 1, 1)} {
		wantNoOrder(t, example(), met, bad, at(5, 2, 1))
		wantNoOrder(t, example(), nil, bad, bad)
		wantNoOrder(t, nil, nil, bad, bad)
	}
	wantNoOrder(t, example(), []api.Meet{meet(1, 116, 2, 100)}, at(5, 1, 1), at(5, 2, 1))
	// It does not matter that the persons of the stamps have no part in what contradicts itself.
	skews := append(example(), skew(7, 100, 100))
	wantNoOrder(t, skews, append(met, meet(1, 109, 2, 100)), at(5, 7, 1), at(6, 7, 1))
}
