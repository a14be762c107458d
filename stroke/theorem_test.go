package stroke_test

import (
	"math/rand"
	"slices"
	"testing"

	"slatewall/api"
	"slatewall/stroke"
)

// thin is what Thin says of a valid stroke.
func thin(t *testing.T, s api.Stroke, tolerance int) []int {
	t.Helper()
	l, e := stroke.Thin(s, tolerance)
	if e != api.OK {
		t.Fatalf("Thin(%s, %d): %d", text(s), tolerance, e)
	}
	return l
}

// P5.2: what Thin says is enough, and nothing with fewer indices is.
func TestThinIsLeast(t *testing.T) {
	r := source()
	for range 150 {
		s, tolerance := anyStroke(r, 1+r.Intn(200)), anyTolerance(r)
		l := thin(t, s, tolerance)
		if !plainEnough(s, l, tolerance) {
			t.Errorf("Thin(%s, %d) = %v: not enough", text(s), tolerance, l)
		}
		if n := plainFewest(s, tolerance); len(l) != n {
			t.Errorf("Thin(%s, %d) = %v, but %d are enough", text(s), tolerance, l, n)
		}
	}
}

// P5.3: with a greater tolerance, Thin has no more indices.
func TestThinWithMore(t *testing.T) {
	r := source()
	for range 150 {
		s := anyStroke(r, 1+r.Intn(100))
		last := len(s.Dots)
		for _, tolerance := range []int{0, 1, 2, 3, 5, 8, 13, 21, 40, 80, 160, 320, 640, 999, 1000} {
			l := thin(t, s, tolerance)
			if len(l) > last {
				t.Errorf("Thin(%s, %d) = %v: more than the %d before", text(s), tolerance, l, last)
			}
			last = len(l)
		}
	}
}

// between says whether p is on the straight line from a to b.
func between(a, b, p api.Place) bool {
	return (b.X-a.X)*(p.Y-a.Y) == (b.Y-a.Y)*(p.X-a.X) && min(a.X, b.X) <= p.X && p.X <= max(a.X, b.X) && min(a.Y, b.Y) <= p.Y && p.Y <= max(a.Y, b.Y)
}

// P5.3: with the tolerance 0, what Thin leaves out is on the straight line.
func TestThinWithNone(t *testing.T) {
	r := source()
	left := 0
	for range 2000 {
		s := anyStroke(r, 1+r.Intn(60))
		places, l := places(s), thin(t, s, 0)
		for i := 1; i < len(l); i++ {
			for k := l[i-1] + 1; k < l[i]; k++ {
				left++
				if !between(places[l[i-1]], places[l[i]], places[k]) {
					t.Errorf("Thin(%s, 0) = %v leaves out dot %d", text(s), l, k)
				}
			}
		}
	}
	if left < 1000 {
		t.Errorf("only %d dots were left out", left)
	}
}

// turnedBox is the least rectangle around the corners of a rectangle after the board was turned by quarters.
func turnedBox(box api.Rect, quarters int) api.Rect {
	a, b := turned(at(box.X, box.Y), quarters), turned(at(box.X+box.W, box.Y+box.H), quarters)
	x, y := min(a.X, b.X), min(a.Y, b.Y)
	return api.Rect{X: x, Y: y, W: max(a.X, b.X) - x, H: max(a.Y, b.Y) - y}
}

// measures is what Box, Way and Ends say of a stroke.
type measures struct {
	box         api.Rect
	way         int
	first, last api.Place
}

// measured returns the measures of a valid stroke.
func measured(t *testing.T, s api.Stroke) measures {
	t.Helper()
	box, e := stroke.Box(s)
	way, f := stroke.Way(s)
	first, last, g := stroke.Ends(s)
	if e != api.OK || f != api.OK || g != api.OK {
		t.Fatalf("%s: %d, %d, %d", text(s), e, f, g)
	}
	return measures{box, way, first, last}
}

// anyPlace is a place that is somewhere near to a stroke, or anywhere.
func anyPlace(r *rand.Rand, s api.Stroke, tolerance int) api.Place {
	if r.Intn(4) == 0 {
		return at(r.Intn(4096), r.Intn(4096))
	}
	d := s.Dots[r.Intn(len(s.Dots))]
	return at(onto(d.X+r.Intn(2*tolerance+3)-tolerance-1), onto(d.Y+r.Intn(2*tolerance+3)-tolerance-1))
}

// P5.4: what all functions say turns with the board.
func TestTurning(t *testing.T) {
	r := source()
	for range 1500 {
		s, quarters, tolerance := anyStroke(r, 1+r.Intn(30)), r.Intn(41)-20, anyTolerance(r)
		u, e := stroke.Turned(s, quarters)
		if e != api.OK {
			t.Fatalf("%s turned by %d: %d", text(s), quarters, e)
		}
		for i, d := range s.Dots {
			p := turned(at(d.X, d.Y), quarters)
			d.X, d.Y = p.X, p.Y
			if u.Dots[i] != d {
				t.Errorf("%s turned by %d: %s", text(s), quarters, text(u))
			}
		}
		m := measured(t, s)
		m.box, m.first, m.last = turnedBox(m.box, quarters), turned(m.first, quarters), turned(m.last, quarters)
		if n := measured(t, u); n != m {
			t.Errorf("%s turned by %d: %v; want %v", text(s), quarters, n, m)
		}
		if a, b := thin(t, s, tolerance), thin(t, u, tolerance); !slices.Equal(a, b) {
			t.Errorf("%s turned by %d: %v and %v", text(s), quarters, a, b)
		}
		p := anyPlace(r, s, tolerance)
		if stroke.Within(s, p, tolerance) != stroke.Within(u, turned(p, quarters), tolerance) {
			t.Errorf("%s turned by %d: Within of %v", text(s), quarters, p)
		}
		if stroke.Near(m.first, m.last, turned(p, quarters), tolerance) != stroke.Near(turned(m.first, -quarters), turned(m.last, -quarters), p, tolerance) {
			t.Errorf("%s turned by %d: Near of %v", text(s), quarters, p)
		}
	}
}

// P5.4: four quarters change nothing, turning back undoes turning, and quarters add up.
func TestTurningBack(t *testing.T) {
	r := source()
	for range 500 {
		s, a, b := anyStroke(r, 1+r.Intn(30)), r.Intn(1<<40)-1<<39, r.Intn(41)-20
		u, e := stroke.Turned(s, a)
		if u.Person != s.Person || u.Number != s.Number || !stroke.Valid(u) {
			t.Errorf("%s turned by %d: %s", text(s), a, text(u))
		}
		four, f := stroke.Turned(u, 4)
		wantStroke(t, "four quarters", four, f, u)
		back, g := stroke.Turned(u, -a)
		wantStroke(t, "turned back", back, g, s)
		both, h := stroke.Turned(u, b)
		once, i := stroke.Turned(s, a+b)
		wantStroke(t, "turned twice", both, h, once)
		if e != api.OK || i != api.OK {
			t.Errorf("%d, %d", e, i)
		}
	}
}

// P5.5: moving moves the box and the ends, changes neither the way nor what Thin says, and is undone by moving back.
func TestMoving(t *testing.T) {
	r := source()
	for range 1500 {
		s, tolerance := anyStroke(r, 1+r.Intn(30)), anyTolerance(r)
		m := measured(t, s)
		x, y := r.Intn(4096-m.box.W)-m.box.X, r.Intn(4096-m.box.H)-m.box.Y
		u, e := stroke.Moved(s, x, y)
		if e != api.OK {
			t.Fatalf("%s moved by %d and %d: %d", text(s), x, y, e)
		}
		back, e := stroke.Moved(u, -x, -y)
		wantStroke(t, "moved back", back, e, s)
		if a, b := thin(t, s, tolerance), thin(t, u, tolerance); !slices.Equal(a, b) {
			t.Errorf("%s moved by %d and %d: %v and %v", text(s), x, y, a, b)
		}
		m.box.X, m.first.X, m.last.X = m.box.X+x, m.first.X+x, m.last.X+x
		m.box.Y, m.first.Y, m.last.Y = m.box.Y+y, m.first.Y+y, m.last.Y+y
		if n := measured(t, u); n != m {
			t.Errorf("%s moved by %d and %d: %v; want %v", text(s), x, y, n, m)
		}
		// All that leaves the board is refused.
		for _, beyond := range [][2]int{{-m.box.X - 1, 0}, {4096 - m.box.X - m.box.W, 0}, {0, -m.box.Y - 1}, {0, 4096 - m.box.Y - m.box.H}} {
			u, e := stroke.Moved(u, beyond[0], beyond[1])
			wantRefused(t, "moved beyond the board", u, e)
		}
	}
}

// P5.6: Near has no direction, goes on with a greater tolerance, has both ends, and reaches no farther than the tolerance.
func TestNearness(t *testing.T) {
	r := source()
	for range 20000 {
		s, tolerance := anyStroke(r, 3), anyTolerance(r)
		l := places(s)
		a, b, p := l[0], l[1], anyPlace(r, s, tolerance)
		near := stroke.Near(a, b, p, tolerance)
		if stroke.Near(b, a, p, tolerance) != near {
			t.Errorf("Near(%v, %v, %v, %d) has a direction", a, b, p, tolerance)
		}
		if more := tolerance + r.Intn(1001-tolerance); near && !stroke.Near(a, b, p, more) {
			t.Errorf("Near(%v, %v, %v) with %d, but not with %d", a, b, p, tolerance, more)
		}
		if !stroke.Near(a, b, a, tolerance) || !stroke.Near(a, b, b, tolerance) {
			t.Errorf("Near(%v, %v, %d) lacks an end", a, b, tolerance)
		}
		farX := max(min(a.X, b.X)-p.X, p.X-max(a.X, b.X))
		farY := max(min(a.Y, b.Y)-p.Y, p.Y-max(a.Y, b.Y))
		if near && (farX > tolerance || farY > tolerance) {
			t.Errorf("Near(%v, %v, %v, %d), but farther from the box", a, b, p, tolerance)
		}
	}
}

// P5.7: all dots are in the box, each side of it has one, and the way is at least as long as the greater side.
func TestBoxes(t *testing.T) {
	r := source()
	for range 3000 {
		s := anyStroke(r, 1+r.Intn(200))
		m := measured(t, s)
		var left, right, top, bottom bool
		for _, p := range places(s) {
			x, y := p.X-m.box.X, p.Y-m.box.Y
			left, right, top, bottom = left || x == 0, right || x == m.box.W, top || y == 0, bottom || y == m.box.H
			if x < 0 || x > m.box.W || y < 0 || y > m.box.H {
				t.Errorf("%s: %v is not in %v", text(s), p, m.box)
			}
		}
		if !left || !right || !top || !bottom {
			t.Errorf("%s: a side of %v has no dot", text(s), m.box)
		}
		if m.way < max(m.box.W, m.box.H) {
			t.Errorf("%s: the way %d is shorter than the box %v", text(s), m.way, m.box)
		}
	}
}

// P5.7: each person and number has a code of its own, whatever the dots are.
func TestCodes(t *testing.T) {
	seen := map[int]bool{}
	for person := range api.MaxPersons {
		for number := 1; number <= api.MaxNumber; number++ {
			s := of(7, 9)
			s.Person, s.Number = person, number
			code := stroke.Code(s)
			if code != 1000*person+number || seen[code] {
				t.Errorf("the code of %d and %d is %d", person, number, code)
			}
			seen[code] = true
			s.Dots = repeated(200).Dots
			if stroke.Code(s) != code {
				t.Errorf("the code of %d and %d is another one with other dots", person, number)
			}
		}
	}
}
