package stamp_test

import (
	"math/rand"
	"testing"

	"slatewall/api"
	"slatewall/stamp"
)

// P6.2: of two different stamps exactly one is before the other one, none is before itself, and it carries over.
func TestTotalOrder(t *testing.T) {
	r := source()
	for range 20000 {
		l := anyStamps(r, 3)
		if r.Intn(10) == 0 {
			l[1] = l[0]
		}
		a, b, c := l[0], l[1], l[2]
		if stamp.Before(a, a) {
			t.Errorf("%v is before itself", a)
		}
		if a != b && stamp.Before(a, b) == stamp.Before(b, a) {
			t.Errorf("%v and %v", a, b)
		}
		if stamp.Before(a, b) && stamp.Before(b, c) && !stamp.Before(a, c) {
			t.Errorf("%v, %v, %v", a, b, c)
		}
	}
}

// P6.2: Sorted has the same stamps, as often, in their order, whatever their order was.
func TestSortedWhatever(t *testing.T) {
	r := source()
	for range 1000 {
		l := anyStamps(r, r.Intn(60))
		sorted := stamp.Sorted(l)
		often := map[api.Stamp]int{}
		for _, s := range l {
			often[s]++
		}
		for i, s := range sorted {
			often[s]--
			if i > 0 && stamp.Before(s, sorted[i-1]) {
				t.Errorf("Sorted(%v) = %v", l, sorted)
			}
		}
		for s, n := range often {
			if n != 0 {
				t.Errorf("Sorted(%v) = %v: %v", l, sorted, s)
			}
		}
		r.Shuffle(len(l), func(i, k int) { l[i], l[k] = l[k], l[i] })
		if again := stamp.Sorted(l); !equal(again, sorted) {
			t.Errorf("Sorted(%v) = %v; in another order %v", l, again, sorted)
		}
	}
}

// P6.3: the stamp that Next returns is after all that were seen, and no earlier than the clock; it is as early as that allows.
func TestNextIsLater(t *testing.T) {
	r := source()
	for range 5000 {
		seen := anyStamps(r, r.Intn(8))
		person, number, clock := r.Intn(40), 1+r.Intn(999), r.Intn(3)*r.Intn(2000)
		s, e := stamp.Next(seen, person, number, clock)
		if e != api.OK || !stamp.Valid(s) || s.Person != person || s.Number != number || s.At < clock {
			t.Fatalf("Next(%v, %d, %d, %d) = %v, %d", seen, person, number, clock, s, e)
		}
		needed := s.At == clock
		for _, old := range seen {
			if !stamp.Before(old, s) {
				t.Errorf("Next(%v, %d, %d, %d) = %v", seen, person, number, clock, s)
			}
			needed = needed || s.At == old.At+1
		}
		if !needed {
			t.Errorf("Next(%v, %d, %d, %d) = %v: later than it must be", seen, person, number, clock, s)
		}
	}
}

// P6.3: whoever adds edits to what they have seen has stamps that become later and later.
func TestNextAgain(t *testing.T) {
	r := source()
	var seen []api.Stamp
	for number := 1; number <= api.MaxNumber; number++ {
		s, e := stamp.Next(seen, r.Intn(40), number, r.Intn(300))
		if e != api.OK {
			t.Fatalf("%d", e)
		}
		seen = append(seen, s)
	}
	if !equal(stamp.Sorted(seen), seen) {
		t.Errorf("%v", seen)
	}
}

// A case of few persons is one of which all advances can be tried.
type few struct {
	skews []api.Skew
	meets []api.Meet
	good  [][]int
}

// anyFew is a case of few persons. About a half of those with several meetings cannot be.
func anyFew(r *rand.Rand) few {
	skews := anySkews(r, 2+r.Intn(3), 1+r.Intn(6))
	meets := anyMeets(r, skews, r.Intn(6), 15)
	return few{skews, meets, possible(skews, meets)}
}

// P6.4, P6.5: Tight of few persons is what trying all advances says, and of many what joining those who have met says.
func TestTightOtherwise(t *testing.T) {
	r := source()
	can, cannot := 0, 0
	check := func(skews []api.Skew, meets []api.Meet, other func([]api.Skew, []api.Meet) ([]api.Skew, int)) {
		want, wrong := other(skews, meets)
		wantTight(t, skews, meets, want, wrong)
		if wrong < 0 {
			can++
		} else {
			cannot++
		}
	}
	for range 1500 {
		c := anyFew(r)
		check(c.skews, c.meets, plainTight)
		skews := anySkews(r, 2+r.Intn(39), []int{1, 10, 1000, 33000}[r.Intn(4)])
		check(skews, anyMeets(r, skews, r.Intn(61), r.Intn(4)), crowdTight)
	}
	if can < 600 || cannot < 600 {
		t.Errorf("%d can be, and %d cannot", can, cannot)
	}
}

// P6.4: the skews of Tight lie within the former ones; each advance between their bounds is possible, and none outside of them.
func TestTightIsTight(t *testing.T) {
	r := source()
	for range 600 {
		c := anyFew(r)
		l, wrong, e := stamp.Tight(c.skews, c.meets)
		if e != api.OK {
			t.Fatalf("%v, %v: %d", c.skews, c.meets, e)
		}
		if wrong >= 0 {
			continue
		}
		for i, old := range c.skews {
			if l[i].Person != old.Person || l[i].Low < old.Low || l[i].High > old.High {
				t.Errorf("%v is not within %v", l[i], old)
			}
			is := map[int]bool{}
			for _, advances := range c.good {
				is[advances[i]] = true
			}
			for n := old.Low; n <= old.High; n++ {
				if is[n] != (l[i].Low <= n && n <= l[i].High) {
					t.Errorf("%v, %v: %d of %v", c.skews, c.meets, n, l[i])
				}
			}
		}
	}
}

// P6.5: the meetings up to the one that is named cannot all be true, and those before it can.
func TestNamed(t *testing.T) {
	r := source()
	for range 1500 {
		skews := anySkews(r, 2+r.Intn(12), 1+r.Intn(100))
		meets := anyMeets(r, skews, r.Intn(61), 3)
		_, wrong, e := stamp.Tight(skews, meets)
		if e != api.OK {
			t.Fatalf("%v, %v: %d", skews, meets, e)
		}
		if wrong < 0 {
			continue
		}
		if l, before, _ := stamp.Tight(skews, meets[:wrong]); before != -1 || len(l) != len(skews) {
			t.Errorf("Tight(%v, %v) names %d, but %d of those before it", skews, meets, wrong, before)
		}
		if l, upTo, _ := stamp.Tight(skews, meets[:wrong+1]); upTo != wrong || len(l) != 0 {
			t.Errorf("Tight(%v, %v) names %d, but %d up to it", skews, meets, wrong, upTo)
		}
	}
}

// P6.4: what is tight stays so, and the meetings may come in any order, and either way around.
func TestTightAgain(t *testing.T) {
	r := source()
	for range 500 {
		skews := anySkews(r, 2+r.Intn(20), 1+r.Intn(200))
		meets := anyMeets(r, skews, r.Intn(61), 0)
		l, wrong, e := stamp.Tight(skews, meets)
		if e != api.OK || wrong >= 0 {
			t.Fatalf("%v, %v: %d, %d", skews, meets, wrong, e)
		}
		wantTight(t, l, meets, l, -1)
		r.Shuffle(len(meets), func(i, k int) { meets[i], meets[k] = meets[k], meets[i] })
		for i, m := range meets {
			if r.Intn(2) == 0 {
				meets[i] = meet(m.B, m.AtB, m.A, m.AtA)
			}
		}
		wantTight(t, skews, meets, l, -1)
	}
}

// anyPair are two valid stamps of persons with skews, at nearby times.
func anyPair(r *rand.Rand, skews []api.Skew) (api.Stamp, api.Stamp) {
	a, b := skews[r.Intn(len(skews))], skews[r.Intn(len(skews))]
	time := 500000
	return at(time+(a.Low+a.High)/2+r.Intn(7)-3, a.Person, 1+r.Intn(999)), at(time+(b.Low+b.High)/2+r.Intn(7)-3, b.Person, 1+r.Intn(999))
}

// P6.6: with a further meeting, skews become no wider, and what was certain about an order stays so.
func TestFurther(t *testing.T) {
	r := source()
	certain := 0
	for range 800 {
		skews := anySkews(r, 2+r.Intn(10), 1+r.Intn(12))
		meets := anyMeets(r, skews, 1+r.Intn(12), 4)
		a, b := anyPair(r, skews)
		last, lastOrder := skews, 0
		for n := range len(meets) + 1 {
			l, wrong, e := stamp.Tight(skews, meets[:n])
			order, f := stamp.Order(skews, meets[:n], a, b)
			if wrong >= 0 {
				break
			}
			if e != api.OK || f != api.OK {
				t.Fatalf("%v, %v: %d, %d", skews, meets[:n], e, f)
			}
			for i := range l {
				if l[i].Low < last[i].Low || l[i].High > last[i].High {
					t.Errorf("%v, %v: %v was %v before", skews, meets[:n], l[i], last[i])
				}
			}
			if lastOrder != 0 {
				certain++
				if order != lastOrder {
					t.Errorf("Order(%v, %v, %v, %v) = %d; before the last meeting %d", skews, meets[:n], a, b, order, lastOrder)
				}
			}
			last, lastOrder = l, order
		}
	}
	if certain < 500 {
		t.Errorf("only %d orders were certain", certain)
	}
}

// P6.7: Order of few persons says what is so for all possible advances, and the opposite the other way around.
func TestOrderOfFew(t *testing.T) {
	r := source()
	var said [3]int
	for range 2500 {
		c := anyFew(r)
		a, b := anyPair(r, c.skews)
		if len(c.good) == 0 {
			wantNoOrder(t, c.skews, c.meets, a, b)
			continue
		}
		want := plainOrder(c.skews, c.meets, a, b)
		said[1+want]++
		wantOrder(t, c.skews, c.meets, a, b, want)
	}
	if min(said[0], said[1], said[2]) < 200 {
		t.Errorf("said %v", said)
	}
}

// P6.7: Order of many persons is what joining those who have met says.
func TestOrderOfMany(t *testing.T) {
	r := source()
	var said [3]int
	for range 1500 {
		skews := anySkews(r, 1+r.Intn(40), []int{1, 3, 10, 1000, 33000}[r.Intn(5)])
		var meets []api.Meet
		if len(skews) > 1 {
			meets = anyMeets(r, skews, r.Intn(61), 0)
		}
		a, b := anyPair(r, skews)
		want := crowdOrder(skews, meets, a, b)
		said[1+want]++
		wantOrder(t, skews, meets, a, b, want)
	}
	if min(said[0], said[1], said[2]) < 200 {
		t.Errorf("said %v", said)
	}
}

// P6.7: When has the true times of a stamp, and Order of persons who have not met says what When does: certain, if no time of the one can be beyond one of the other.
func TestOrderAndWhen(t *testing.T) {
	r := source()
	for range 3000 {
		skews := anySkews(r, 2+r.Intn(5), 1+r.Intn(8))
		a, b := anyPair(r, skews)
		if a.Person == b.Person {
			continue
		}
		of, e := stamp.When(skews, a.Person, a.At)
		other, f := stamp.When(skews, b.Person, b.At)
		if e != api.OK || f != api.OK {
			t.Fatalf("%v, %v, %v: %d, %d", skews, a, b, e, f)
		}
		want := 0
		if of.To <= other.From {
			want = -1
		}
		if other.To <= of.From {
			want = 1
		}
		wantOrder(t, skews, nil, a, b, want)
	}
}
