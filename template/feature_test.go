package template_test

import (
	"testing"

	"slatewall/api"
	"slatewall/template"
)

// P8.1: the direction of every small difference, in each of the eight, and of none.
func TestDirection(t *testing.T) {
	for x := -150; x <= 150; x++ {
		for y := -150; y <= 150; y++ {
			if d := template.Direction(at(1000, 2000), at(1000+x, 2000+y)); d != plainDirection(x, y) {
				t.Fatalf("by %d and %d: %d; want %d", x, y, d, plainDirection(x, y))
			}
		}
	}
	for i, p := range []api.Place{at(50, 10), at(50, 50), at(10, 50), at(-50, 50), at(-50, 10), at(-50, -50), at(-10, -50), at(50, -50)} {
		if d := template.Direction(at(60, 70), at(60+p.X, 70+p.Y)); d != i {
			t.Errorf("by %v: %d; want %d", p, d, i)
		}
	}
	for _, p := range []api.Place{at(0, 0), at(4095, 4095), at(0, 4095), at(7, 9)} {
		if d := template.Direction(p, p); d != 0 {
			t.Errorf("from %v to itself: %d", p, d)
		}
	}
}

// P8.1: large differences, at the bounds between two directions.
func TestDirectionLarge(t *testing.T) {
	for long := 1; long <= 4095; long++ {
		for _, short := range []int{0, 1, long/2 - 1, long / 2, (long + 1) / 2, long/2 + 1, long - 1, long} {
			for signs := range 4 {
				x, y := long*(1-signs&2), min(max(short, 0), 4095)*(1-2*(signs&1))
				for _, p := range []api.Place{at(x, y), at(y, x)} {
					// Each of them begins at the side of the board that leaves it room.
					a := at(4095*(1-sign(p.X))/2, 4095*(1-sign(p.Y))/2)
					if d := template.Direction(a, at(a.X+p.X, a.Y+p.Y)); d != plainDirection(p.X, p.Y) {
						t.Fatalf("by %v: %d; want %d", p, d, plainDirection(p.X, p.Y))
					}
				}
			}
		}
	}
}

// sign is 1 or -1: 1 for 0.
func sign(n int) int {
	if n < 0 {
		return -1
	}
	return 1
}

// P8.1: Direction has none if a place is not on the board.
func TestDirectionLimits(t *testing.T) {
	for _, p := range outside() {
		for _, q := range []api.Place{at(0, 0), at(4095, 4095), at(0, 4095), p} {
			if a, b := template.Direction(p, q), template.Direction(q, p); a != -1 || b != -1 {
				t.Errorf("between %v and %v: %d and %d", p, q, a, b)
			}
		}
	}
	for _, p := range []api.Place{at(0, 0), at(4095, 0), at(0, 4095), at(4095, 4095)} {
		if d := template.Direction(at(2000, 2000), p); d != plainDirection(p.X-2000, p.Y-2000) {
			t.Errorf("to %v: %d", p, d)
		}
	}
}

// P8.1: features by hand: of few places, bent as little as is kept, and closed or not.
func TestLook(t *testing.T) {
	for i, x := range []struct {
		s      api.Stroke
		kept   []api.Place
		steps  string
		closed bool
	}{
		{example(), places(example()), "0246", true},
		{of(1, 5, 5), []api.Place{at(5, 5)}, "", false},
		{of(1, 5, 5, 5, 5), []api.Place{at(5, 5), at(5, 5)}, "0", false},
		{of(1, 5, 5, 45, 5, 5, 5), []api.Place{at(5, 5), at(5, 5)}, "0", false},
		{of(1, 500, 500, 500, 300), []api.Place{at(500, 500), at(500, 300)}, "6", false},
		{of(1, 100, 100, 300, 140, 500, 100), []api.Place{at(100, 100), at(500, 100)}, "0", false},
		{of(1, 100, 100, 300, 141, 500, 100), []api.Place{at(100, 100), at(300, 141), at(500, 100)}, "00", false},
		{of(1, 100, 100, 300, 250, 500, 100), []api.Place{at(100, 100), at(300, 250), at(500, 100)}, "17", false},
		// Three places are not closed, and four are, if both ends are near.
		{of(1, 100, 100, 300, 100, 100, 101), []api.Place{at(100, 100), at(300, 100), at(100, 101)}, "04", false},
		{of(1, 100, 100, 300, 100, 100, 300, 100, 100), []api.Place{at(100, 100), at(300, 100), at(100, 300), at(100, 100)}, "036", true},
		{of(1, 500, 500, 700, 500, 700, 900, 620, 620), []api.Place{at(500, 500), at(700, 500), at(700, 900), at(620, 620)}, "026", true},
		{of(1, 500, 500, 700, 500, 700, 900, 621, 500), []api.Place{at(500, 500), at(700, 500), at(700, 900), at(621, 500)}, "026", false},
		{of(1, 500, 500, 700, 500, 700, 900, 500, 621), []api.Place{at(500, 500), at(700, 500), at(700, 900), at(500, 621)}, "025", false},
		{of(1, 500, 500, 700, 500, 700, 900, 380, 380), []api.Place{at(500, 500), at(700, 500), at(700, 900), at(380, 380)}, "025", true},
		{of(1, 500, 500, 700, 500, 700, 900, 379, 500), []api.Place{at(500, 500), at(700, 500), at(700, 900), at(379, 500)}, "025", false},
		{of(1, 500, 500, 700, 500, 700, 900, 500, 379), []api.Place{at(500, 500), at(700, 500), at(700, 900), at(500, 379)}, "026", false},
		{of(1, 0, 0, 4095, 0, 4095, 4095, 0, 4095), []api.Place{at(0, 0), at(4095, 0), at(4095, 4095), at(0, 4095)}, "024", false},
	} {
		f, e := template.Look(x.s)
		if want := (api.Feature{Places: x.kept, Steps: steps(x.steps), Closed: x.closed}); e != api.OK || !sameFeature(f, want) {
			t.Errorf("%d: Look = %v, %d; want %v", i, f, e, want)
		}
	}
}

// P8.1: the feature of any stroke.
func TestLookAny(t *testing.T) {
	r := source()
	closed, counts := 0, map[int]int{}
	for range 5000 {
		s := anyStroke(r)
		f, e := template.Look(s)
		if want := plainFeature(s); e != api.OK || !sameFeature(f, want) {
			t.Fatalf("Look(%v) = %v, %d; want %v", s, f, e, want)
		}
		counts[len(f.Places)]++
		if f.Closed {
			closed++
		}
	}
	for n := 1; n < 10; n++ {
		if counts[n] < 30 {
			t.Errorf("only %d strokes have %d places", counts[n], n)
		}
	}
	if closed < 200 {
		t.Errorf("only %d strokes are closed", closed)
	}
}

// P8.1: a stroke of which all of 200 dots are kept.
func TestLookLong(t *testing.T) {
	s := zigzag(3, 200)
	f, e := template.Look(s)
	if e != api.OK || len(f.Places) != 200 || !sameFeature(f, plainFeature(s)) {
		t.Errorf("Look = %v, %d", f, e)
	}
	for i, d := range f.Steps {
		if i%50 < 49 && d != i%2*4 {
			t.Errorf("the step %d is %d", i, d)
		}
	}
}
