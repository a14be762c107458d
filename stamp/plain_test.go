package stamp_test

import (
	"math/rand"
	"testing"

	"slatewall/api"
	"slatewall/stamp"
)

// This file makes stamps, skews and meetings, and computes results in other ways than the package does: by trying all advances of few persons, and by the differences among those who have met, of many.

// source is the same for every run of a test.
func source() *rand.Rand { return rand.New(rand.NewSource(6)) }

// at returns a stamp.
func at(time int, person int, number int) api.Stamp {
	return api.Stamp{At: time, Person: person, Number: number}
}

// skew returns a skew.
func skew(person int, low int, high int) api.Skew {
	return api.Skew{Person: person, Low: low, High: high}
}

// meet returns a meeting.
func meet(a int, atA int, b int, atB int) api.Meet { return api.Meet{A: a, AtA: atA, B: b, AtB: atB} }

// example are the skews of the chapter's examples.
func example() []api.Skew { return []api.Skew{skew(1, 0, 10), skew(2, -5, 5)} }

// chain are skews of all persons, with the same bounds.
func chain(low int, high int) []api.Skew {
	var l []api.Skew
	for p := range api.MaxPersons {
		l = append(l, skew(p, low, high))
	}
	return l
}

// anyStamp is a valid stamp, often one that is near to others.
func anyStamp(r *rand.Rand) api.Stamp {
	few := []int{2, 3, 1000}[r.Intn(3)]
	return at(r.Intn(few)*r.Intn(1001), r.Intn(min(few, api.MaxPersons)), 1+r.Intn(min(few, api.MaxNumber)))
}

// anyStamps are so many valid stamps.
func anyStamps(r *rand.Rand, n int) []api.Stamp {
	var l []api.Stamp
	for range n {
		l = append(l, anyStamp(r))
	}
	return l
}

// anySkews are valid skews of so many persons, each with bounds that are less than width apart.
func anySkews(r *rand.Rand, persons int, width int) []api.Skew {
	var l []api.Skew
	for _, p := range r.Perm(api.MaxPersons)[:persons] {
		low := r.Intn(2*width+1) - width
		l = append(l, skew(p, low, low+r.Intn(width)))
	}
	for i := range l {
		for k := range i {
			if l[i].Person < l[k].Person {
				l[i], l[k] = l[k], l[i]
			}
		}
	}
	return l
}

// anyMeets are valid meetings of these persons. Most of them are true for certain advances within the skews; false ones are as frequent as wanted, of a hundred.
func anyMeets(r *rand.Rand, skews []api.Skew, n int, false100 int) []api.Meet {
	advance := map[int]int{}
	for _, s := range skews {
		advance[s.Person] = s.Low + r.Intn(s.High-s.Low+1)
	}
	var l []api.Meet
	for range n {
		pair := r.Perm(len(skews))[:2]
		a, b := skews[pair[0]].Person, skews[pair[1]].Person
		time := 300000 + r.Intn(400000)
		m := meet(a, time+advance[a], b, time+advance[b])
		if r.Intn(100) < false100 {
			m.AtA += r.Intn(5) - 2
		}
		l = append(l, m)
	}
	return l
}

// possible are all possible advances, each one a number for each skew, found by trying all.
func possible(skews []api.Skew, meets []api.Meet) [][]int {
	all := [][]int{nil}
	for _, s := range skews {
		var longer [][]int
		for _, advances := range all {
			for n := s.Low; n <= s.High; n++ {
				longer = append(longer, append(append([]int(nil), advances...), n))
			}
		}
		all = longer
	}
	var good [][]int
	for _, advances := range all {
		if hold(skews, meets, advances) {
			good = append(good, advances)
		}
	}
	return good
}

// hold says whether advances, one for each skew, are possible for the meetings.
func hold(skews []api.Skew, meets []api.Meet, advances []int) bool {
	of := map[int]int{}
	for i, s := range skews {
		of[s.Person] = advances[i]
		if advances[i] < s.Low || advances[i] > s.High {
			return false
		}
	}
	for _, m := range meets {
		if of[m.A]-of[m.B] != m.AtA-m.AtB {
			return false
		}
	}
	return true
}

// plainTight tries all advances of few persons.
func plainTight(skews []api.Skew, meets []api.Meet) ([]api.Skew, int) {
	good := possible(skews, meets)
	if len(good) == 0 {
		for i := range meets {
			if len(possible(skews, meets[:i+1])) == 0 {
				return nil, i
			}
		}
	}
	var l []api.Skew
	for i, s := range skews {
		least, greatest := good[0][i], good[0][i]
		for _, advances := range good {
			least, greatest = min(least, advances[i]), max(greatest, advances[i])
		}
		l = append(l, skew(s.Person, least, greatest))
	}
	return l, -1
}

// plainOrder tries all advances of few persons.
func plainOrder(skews []api.Skew, meets []api.Meet, a, b api.Stamp) int {
	earlier, later := true, true
	for _, advances := range possible(skews, meets) {
		var time [2]int
		for i, s := range skews {
			for k, x := range []api.Stamp{a, b} {
				if x.Person == s.Person {
					time[k] = x.At - advances[i]
				}
			}
		}
		earlier, later = earlier && time[0] < time[1], later && time[0] > time[1]
	}
	switch {
	case earlier:
		return -1
	case later:
		return 1
	}
	return 0
}

// crowd are persons of whom each one has met another one, if by others only: with the bounds of an advance, by which the clock of each one is ahead of it.
type crowd struct {
	ahead     map[int]int
	low, high int
}

// crowds puts each person into one, and joins two at a meeting, or says at which one that cannot be. It keeps them together, rather than to narrow the skews of each person.
func crowds(skews []api.Skew, meets []api.Meet) (map[int]*crowd, int) {
	of := map[int]*crowd{}
	for _, s := range skews {
		of[s.Person] = &crowd{map[int]int{s.Person: 0}, s.Low, s.High}
	}
	for i, m := range meets {
		a, b := of[m.A], of[m.B]
		// By so much the advance of b is more than that of a.
		more := m.AtB - m.AtA + a.ahead[m.A] - b.ahead[m.B]
		if a == b && more != 0 {
			return nil, i
		}
		if a != b {
			a.low, a.high = max(a.low, b.low-more), min(a.high, b.high-more)
			for p, n := range b.ahead {
				a.ahead[p] = n + more
				of[p] = a
			}
		}
		if a.low > a.high {
			return nil, i
		}
	}
	return of, -1
}

// crowdTight is what Tight must say of any number of persons.
func crowdTight(skews []api.Skew, meets []api.Meet) ([]api.Skew, int) {
	of, wrong := crowds(skews, meets)
	if wrong >= 0 {
		return nil, wrong
	}
	var l []api.Skew
	for _, s := range skews {
		c := of[s.Person]
		l = append(l, skew(s.Person, c.low+c.ahead[s.Person], c.high+c.ahead[s.Person]))
	}
	return l, -1
}

// crowdOrder is what Order must say of any number of persons, if the meetings can be.
func crowdOrder(skews []api.Skew, meets []api.Meet, a, b api.Stamp) int {
	of, _ := crowds(skews, meets)
	c, d := of[a.Person], of[b.Person]
	// The true time of a less that of b, at the least and at the most.
	least := a.At - c.ahead[a.Person] - c.high - b.At + d.ahead[b.Person] + d.low
	greatest := a.At - c.ahead[a.Person] - c.low - b.At + d.ahead[b.Person] + d.high
	if c == d {
		least = a.At - c.ahead[a.Person] - b.At + c.ahead[b.Person]
		greatest = least
	}
	switch {
	case greatest < 0:
		return -1
	case least > 0:
		return 1
	}
	return 0
}

// equal says whether two lists are equal.
func equal[T comparable](a, b []T) bool {
	if len(a) != len(b) {
		return false
	}
	for i := range a {
		if a[i] != b[i] {
			return false
		}
	}
	return true
}

// wantTight checks what Tight says of valid arguments.
func wantTight(t *testing.T, skews []api.Skew, meets []api.Meet, want []api.Skew, wrong int) {
	t.Helper()
	l, i, e := stamp.Tight(skews, meets)
	if e != api.OK || i != wrong || !equal(l, want) {
		t.Errorf("Tight(%v, %v) = %v, %d, %d; want %v, %d", skews, meets, l, i, e, want, wrong)
	}
}

// wantOrder checks what Order says of valid arguments, both ways around.
func wantOrder(t *testing.T, skews []api.Skew, meets []api.Meet, a, b api.Stamp, want int) {
	t.Helper()
	if n, e := stamp.Order(skews, meets, a, b); e != api.OK || n != want {
		t.Errorf("Order(%v, %v, %v, %v) = %d, %d; want %d", skews, meets, a, b, n, e, want)
	}
	if n, e := stamp.Order(skews, meets, b, a); e != api.OK || n != -want {
		t.Errorf("Order(%v, %v, %v, %v) = %d, %d; want %d", skews, meets, b, a, n, e, -want)
	}
}

// wantNoOrder checks that Order refuses its arguments, both ways around.
func wantNoOrder(t *testing.T, skews []api.Skew, meets []api.Meet, a, b api.Stamp) {
	t.Helper()
	n, e := stamp.Order(skews, meets, a, b)
	k, f := stamp.Order(skews, meets, b, a)
	if e != api.ErrStamp || n != 0 || f != api.ErrStamp || k != 0 {
		t.Errorf("Order(%.200v, %.200v, %v, %v) = %d, %d; %d, %d the other way around", skews, meets, a, b, n, e, k, f)
	}
}

// wantWhen checks what When says of valid arguments.
func wantWhen(t *testing.T, skews []api.Skew, person int, clock int, from int, to int) {
	t.Helper()
	if s, e := stamp.When(skews, person, clock); e != api.OK || s != (api.Spell{From: from, To: to}) {
		t.Errorf("When(%v, %d, %d) = %v, %d; want from %d to %d", skews, person, clock, s, e, from, to)
	}
}

// wantNoWhen checks that When refuses its arguments.
func wantNoWhen(t *testing.T, skews []api.Skew, person int, clock int) {
	t.Helper()
	if s, e := stamp.When(skews, person, clock); e != api.ErrStamp || s != (api.Spell{}) {
		t.Errorf("When(%.200v, %d, %d) = %v, %d", skews, person, clock, s, e)
	}
}

// wantNext checks what Next says, both if it must return a stamp, and if it must return none.
func wantNext(t *testing.T, seen []api.Stamp, person int, number int, clock int, want api.Stamp, wantE api.Errno) {
	t.Helper()
	if s, e := stamp.Next(seen, person, number, clock); e != wantE || s != want {
		t.Errorf("Next(%.200v, %d, %d, %d) = %v, %d; want %v, %d", seen, person, number, clock, s, e, want, wantE)
	}
}
