package stroke_test

import (
	"math/big"
	"math/rand"
	"strconv"
	"strings"
	"testing"

	"slatewall/api"
	"slatewall/stroke"
)

// This file makes strokes, and computes results in another way than the package does: from the chapter's definitions, with the library's fractions.

// source is the same for every run of a test.
func source() *rand.Rand { return rand.New(rand.NewSource(5)) }

// at returns a place.
func at(x int, y int) api.Place { return api.Place{X: x, Y: y} }

// of returns a stroke of the person 2 with the number 7, with these X and Y in turn, one after the other in time.
func of(l ...int) api.Stroke {
	s := api.Stroke{Person: 2, Number: 7}
	for i := 0; i+1 < len(l); i += 2 {
		s.Dots = append(s.Dots, api.Dot{X: l[i], Y: l[i+1], At: 3 * i, Press: i % 101})
	}
	return s
}

// example is the stroke of the chapter's examples.
func example() api.Stroke { return of(0, 0, 50, 2, 100, 0, 100, 60, 101, 100) }

// repeated is a stroke with as many dots, all at one place and one time.
func repeated(dots int) api.Stroke {
	return api.Stroke{Person: 2, Number: 7, Dots: make([]api.Dot, dots)}
}

// copied is an equal stroke in memory of its own.
func copied(s api.Stroke) api.Stroke {
	s.Dots = append([]api.Dot(nil), s.Dots...)
	return s
}

// text is how a stroke is written here.
func text(s api.Stroke) string {
	var b strings.Builder
	b.WriteString(strconv.Itoa(s.Person) + "/" + strconv.Itoa(s.Number))
	for _, d := range s.Dots {
		b.WriteString(" (" + strconv.Itoa(d.X) + ", " + strconv.Itoa(d.Y) + " at " + strconv.Itoa(d.At) + " with " + strconv.Itoa(d.Press) + ")")
	}
	return b.String()
}

// places are the places of the dots.
func places(s api.Stroke) []api.Place {
	var l []api.Place
	for _, d := range s.Dots {
		l = append(l, at(d.X, d.Y))
	}
	return l
}

// anyStroke is a valid stroke with so many dots, of one of several sorts: on few places, wandering, anywhere, near to a straight line, or to and fro on one.
func anyStroke(r *rand.Rand, dots int) api.Stroke {
	s := api.Stroke{Person: r.Intn(api.MaxPersons), Number: 1 + r.Intn(api.MaxNumber)}
	sort, reach, p, time := r.Intn(5), 1+r.Intn(60), at(r.Intn(4096), r.Intn(4096)), 0
	slope := at(r.Intn(41)-20, r.Intn(41)-20)
	for i := range dots {
		switch sort {
		case 0:
			p = at(100+r.Intn(5), 200+r.Intn(5))
		case 1:
			p = at(onto(p.X+r.Intn(2*reach+1)-reach), onto(p.Y+r.Intn(2*reach+1)-reach))
		case 2:
			p = at(r.Intn(4096), r.Intn(4096))
		case 3:
			p = at(onto(2000+i*slope.X/2+r.Intn(reach)), onto(2000+i*slope.Y/2+r.Intn(reach)))
		case 4:
			k := r.Intn(100)
			p = at(2000+k*slope.X, 2000+k*slope.Y)
		}
		time += r.Intn(3) * r.Intn(2000)
		s.Dots = append(s.Dots, api.Dot{X: p.X, Y: p.Y, At: time, Press: r.Intn(101)})
	}
	return s
}

// onto is the nearest number that a place can have.
func onto(n int) int { return min(max(n, 0), api.MaxPlace) }

// anyTolerance is a tolerance, often a small one.
func anyTolerance(r *rand.Rand) int { return r.Intn([]int{1, 4, 20, 100, 1001}[r.Intn(5)]) }

// fraction returns a number.
func fraction(n int) *big.Rat { return big.NewRat(int64(n), 1) }

// square is the square of a number.
func square(x *big.Rat) *big.Rat { return new(big.Rat).Mul(x, x) }

// plainNear finds the nearest place of the straight line as a share of the way from a to b, and compares the square of its distance.
func plainNear(a, b, p api.Place, tolerance int) bool {
	length := (b.X-a.X)*(b.X-a.X) + (b.Y-a.Y)*(b.Y-a.Y)
	share := new(big.Rat)
	if length > 0 {
		share.SetFrac64(int64((p.X-a.X)*(b.X-a.X)+(p.Y-a.Y)*(b.Y-a.Y)), int64(length))
	}
	if share.Sign() < 0 {
		share.SetInt64(0)
	}
	if share.Cmp(fraction(1)) > 0 {
		share.SetInt64(1)
	}
	beside := func(from, to, other int) *big.Rat {
		nearest := new(big.Rat).Mul(share, fraction(to-from))
		return nearest.Sub(nearest.Add(nearest, fraction(from)), fraction(other))
	}
	distance := new(big.Rat).Add(square(beside(a.X, b.X, p.X)), square(beside(a.Y, b.Y, p.Y)))
	return distance.Cmp(square(fraction(tolerance))) <= 0
}

// plainEnough says whether a list says enough of a stroke.
func plainEnough(s api.Stroke, list []int, tolerance int) bool {
	l := places(s)
	if len(list) == 0 || list[0] != 0 || list[len(list)-1] != len(l)-1 {
		return false
	}
	for i := 1; i < len(list); i++ {
		if list[i] <= list[i-1] {
			return false
		}
		for k := list[i-1] + 1; k < list[i]; k++ {
			if !plainNear(l[list[i-1]], l[list[i]], l[k], tolerance) {
				return false
			}
		}
	}
	return true
}

// before says whether a list is before another one, index by index.
func before(a, b []int) bool {
	for i := range min(len(a), len(b)) {
		if a[i] != b[i] {
			return a[i] < b[i]
		}
	}
	return len(a) < len(b)
}

// plainThin goes through all lists of indices of few dots, and returns the first one of those with the fewest indices, and how many of these there are.
func plainThin(s api.Stroke, tolerance int) (best []int, ties int) {
	for set := range 1 << len(s.Dots) {
		var list []int
		for i := range s.Dots {
			if set>>i&1 == 1 {
				list = append(list, i)
			}
		}
		if !plainEnough(s, list, tolerance) {
			continue
		}
		switch {
		case best == nil || len(list) < len(best):
			best, ties = list, 1
		case len(list) == len(best):
			ties++
			if before(list, best) {
				best = list
			}
		}
	}
	return best, ties
}

// plainFewest is how many indices the lists have that say enough of a stroke, at the least. It finds, forward, what is reached with one index more, and more.
func plainFewest(s api.Stroke, tolerance int) int {
	l := places(s)
	reached := map[int]bool{0: true}
	for count := 1; ; count++ {
		if reached[len(l)-1] {
			return count
		}
		next := map[int]bool{}
		for i := range reached {
			for to := i + 1; to < len(l); to++ {
				next[to] = next[to] || skips(l, i, to, tolerance)
			}
		}
		for i, ok := range next {
			if !ok {
				delete(next, i)
			}
		}
		reached = next
	}
}

// skips says whether all places between two of a list are near these two.
func skips(l []api.Place, i, to, tolerance int) bool {
	for k := i + 1; k < to; k++ {
		if !stroke.Near(l[i], l[to], l[k], tolerance) {
			return false
		}
	}
	return true
}

// turned is a place after the board was turned by quarters, found by turning it one by one.
func turned(p api.Place, quarters int) api.Place {
	for range (quarters%4 + 4) % 4 {
		p = at(api.MaxPlace-p.Y, p.X)
	}
	return p
}

// wantStroke checks what a call returned that returns a stroke.
func wantStroke(t *testing.T, call string, got api.Stroke, e api.Errno, want api.Stroke) {
	t.Helper()
	if e != api.OK || !equal(got, want) {
		t.Errorf("%s = %s, %d; want %s", call, text(got), e, text(want))
	}
}

// wantRefused checks what a call returned that must return no stroke.
func wantRefused(t *testing.T, call string, got api.Stroke, e api.Errno) {
	t.Helper()
	if e != api.ErrStroke || got.Person != 0 || got.Number != 0 || len(got.Dots) != 0 {
		t.Errorf("%s = %s, %d; want none", call, text(got), e)
	}
}

// equal says whether two strokes are equal.
func equal(a, b api.Stroke) bool { return text(a) == text(b) }
