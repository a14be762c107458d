package stroke_test

import (
	"math"
	"slices"
	"testing"

	"slatewall/api"
	"slatewall/stroke"
)

// A variant is a stroke, and whether it is valid.
type variant struct {
	name  string
	s     api.Stroke
	valid bool
}

// with is the example, changed.
func with(name string, valid bool, change func(*api.Stroke)) variant {
	s := example()
	change(&s)
	return variant{name, s, valid}
}

// limited are the example with each number at, and beyond, its limits.
func limited() []variant {
	var all []variant
	numbers := func(name string, least, greatest int, set func(*api.Stroke, int)) {
		for _, n := range []int{least, greatest, least - 1, greatest + 1, math.MinInt, math.MaxInt} {
			all = append(all, with(name, least <= n && n <= greatest, func(s *api.Stroke) { set(s, n) }))
		}
	}
	numbers("person", 0, 39, func(s *api.Stroke, n int) { s.Person = n })
	numbers("number", 1, 999, func(s *api.Stroke, n int) { s.Number = n })
	for i := range example().Dots {
		numbers("x", 0, 4095, func(s *api.Stroke, n int) { s.Dots[i].X = n })
		numbers("y", 0, 4095, func(s *api.Stroke, n int) { s.Dots[i].Y = n })
		numbers("press", 0, 100, func(s *api.Stroke, n int) { s.Dots[i].Press = n })
		// From this dot on, so that none is earlier than the one before it.
		numbers("at", 6*max(i-1, 0), 1000000, func(s *api.Stroke, n int) {
			for k := i; k < len(s.Dots); k++ {
				s.Dots[k].At = n
			}
		})
	}
	numbers("the first at", 0, 6, func(s *api.Stroke, n int) { s.Dots[0].At = n })
	numbers("the last at", 18, 1000000, func(s *api.Stroke, n int) { s.Dots[4].At = n })
	numbers("at between others", 6, 18, func(s *api.Stroke, n int) { s.Dots[2].At = n })
	for _, n := range []int{0, 1, 2, 199, 200, 201, 400, 100000} {
		all = append(all, variant{"dots", repeated(n), 1 <= n && n <= 200})
	}
	all = append(all, variant{"zero", api.Stroke{}, false})
	return all
}

// P5.1: the chapter's examples.
func TestExamples(t *testing.T) {
	s := example()
	if c := stroke.Code(s); c != 2007 {
		t.Errorf("Code = %d", c)
	}
	if r, e := stroke.Box(s); e != api.OK || r != (api.Rect{X: 0, Y: 0, W: 101, H: 100}) {
		t.Errorf("Box = %v, %d", r, e)
	}
	if n, e := stroke.Way(s); e != api.OK || n != 200 {
		t.Errorf("Way = %d, %d", n, e)
	}
	for tolerance, want := range map[int][]int{2: {0, 2, 4}, 1: {0, 1, 2, 4}, 0: {0, 1, 2, 3, 4}} {
		if l, e := stroke.Thin(s, tolerance); e != api.OK || !slices.Equal(l, want) {
			t.Errorf("Thin with %d = %v, %d", tolerance, l, e)
		}
	}
	if !stroke.Near(at(0, 0), at(100, 0), at(50, 3), 3) || stroke.Near(at(0, 0), at(100, 0), at(50, 3), 2) {
		t.Error("Near")
	}
	u, e := stroke.Turned(s, 1)
	a, b, f := stroke.Ends(u)
	if e != api.OK || f != api.OK || a != at(4095, 0) || b != at(3995, 101) {
		t.Errorf("turned: %v and %v, %d and %d", a, b, e, f)
	}
}

// P5.1: Valid, and Code, at the limits of each number, and beyond them.
func TestValid(t *testing.T) {
	for _, v := range limited() {
		if stroke.Valid(v.s) != v.valid {
			t.Errorf("%s: Valid of %.300s = %t", v.name, text(v.s), !v.valid)
		}
		code := 0
		if v.valid {
			code = 1000*v.s.Person + v.s.Number
		}
		if c := stroke.Code(v.s); c != code {
			t.Errorf("%s: Code of %.300s = %d", v.name, text(v.s), c)
		}
	}
}

// P5.1: equal times are valid, and descending ones are not, wherever they are.
func TestValidTimes(t *testing.T) {
	for i := range 199 {
		s := repeated(200)
		for k := i + 1; k < 200; k++ {
			s.Dots[k].At = 1000000
		}
		if !stroke.Valid(s) {
			t.Errorf("rising behind %d", i)
		}
		s.Dots[i].At, s.Dots[i+1].At = 7, 6
		if stroke.Valid(s) {
			t.Errorf("descending behind %d", i)
		}
	}
}

// P5.1: a stroke that is not valid gives an error, or false, and zeros, in all functions.
func TestNotValid(t *testing.T) {
	for _, v := range limited() {
		if v.valid {
			continue
		}
		s := v.s
		if r, e := stroke.Box(s); e != api.ErrStroke || r != (api.Rect{}) {
			t.Errorf("%s: Box = %v, %d", v.name, r, e)
		}
		if n, e := stroke.Way(s); e != api.ErrStroke || n != 0 {
			t.Errorf("%s: Way = %d, %d", v.name, n, e)
		}
		if a, b, e := stroke.Ends(s); e != api.ErrStroke || a != (api.Place{}) || b != (api.Place{}) {
			t.Errorf("%s: Ends = %v, %v, %d", v.name, a, b, e)
		}
		if stroke.Within(s, at(100, 30), 1000) {
			t.Errorf("%s: Within", v.name)
		}
		if l, e := stroke.Thin(s, 5); e != api.ErrStroke || len(l) != 0 {
			t.Errorf("%s: Thin = %v, %d", v.name, l, e)
		}
		for _, kept := range [][]int{nil, {0}, {0, 1}, {4}, {math.MinInt}, {math.MaxInt}} {
			k, e := stroke.Kept(s, kept)
			wantRefused(t, v.name+": Kept", k, e)
		}
		for _, n := range []int{0, 1, -1, -101, 4095, -4095} {
			m, e := stroke.Moved(s, n, 0)
			wantRefused(t, v.name+": Moved along X", m, e)
			m, e = stroke.Moved(s, 0, n)
			wantRefused(t, v.name+": Moved along Y", m, e)
			u, e := stroke.Turned(s, n)
			wantRefused(t, v.name+": Turned", u, e)
		}
	}
}

// P5.1: strokes are the same only if each field is.
func TestSame(t *testing.T) {
	for _, v := range limited() {
		if !stroke.Same(v.s, copied(v.s)) {
			t.Errorf("%s: not the same as itself", v.name)
		}
		if same := equal(v.s, example()); stroke.Same(v.s, example()) != same || stroke.Same(example(), v.s) != same {
			t.Errorf("%s: Same as the example is not %t", v.name, same)
		}
	}
	for i := range example().Dots {
		for name, change := range map[string]func(*api.Stroke){
			"x":     func(s *api.Stroke) { s.Dots[i].X++ },
			"y":     func(s *api.Stroke) { s.Dots[i].Y++ },
			"at":    func(s *api.Stroke) { s.Dots[i].At++ },
			"press": func(s *api.Stroke) { s.Dots[i].Press++ },
			"short": func(s *api.Stroke) { s.Dots = s.Dots[:i] },
			"first": func(s *api.Stroke) { s.Dots = append(s.Dots[:i:i], s.Dots[i+1:]...) },
			"more":  func(s *api.Stroke) { s.Dots = append(s.Dots, s.Dots[i]) },
		} {
			v := with(name, true, change)
			if stroke.Same(v.s, example()) || stroke.Same(example(), v.s) {
				t.Errorf("%s of dot %d is another one: Same", name, i)
			}
		}
	}
	// Nil and empty slices are equivalent.
	if !stroke.Same(api.Stroke{}, api.Stroke{Dots: []api.Dot{}}) || stroke.Same(api.Stroke{}, api.Stroke{Person: 1}) || stroke.Same(api.Stroke{Number: 1}, api.Stroke{}) {
		t.Error("Same of strokes without dots")
	}
}

// P5.1: Box, Way and Ends of strokes by hand.
func TestMeasures(t *testing.T) {
	for i, x := range []struct {
		s           api.Stroke
		box         api.Rect
		way         int
		first, last api.Place
	}{
		{of(7, 9), api.Rect{X: 7, Y: 9}, 0, at(7, 9), at(7, 9)},
		{of(4095, 0), api.Rect{X: 4095}, 0, at(4095, 0), at(4095, 0)},
		{repeated(200), api.Rect{}, 0, at(0, 0), at(0, 0)},
		{of(3, 8, 10, 4), api.Rect{X: 3, Y: 4, W: 7, H: 4}, 7, at(3, 8), at(10, 4)},
		{of(10, 4, 3, 8), api.Rect{X: 3, Y: 4, W: 7, H: 4}, 7, at(10, 4), at(3, 8)},
		{of(3, 20, 10, 4), api.Rect{X: 3, Y: 4, W: 7, H: 16}, 16, at(3, 20), at(10, 4)},
		{of(3, 4, 10, 20), api.Rect{X: 3, Y: 4, W: 7, H: 16}, 16, at(3, 4), at(10, 20)},
		{of(5, 5, 1, 9, 9, 1, 5, 5), api.Rect{X: 1, Y: 1, W: 8, H: 8}, 16, at(5, 5), at(5, 5)},
		{of(0, 4095, 4095, 0, 0, 0), api.Rect{W: 4095, H: 4095}, 8190, at(0, 4095), at(0, 0)},
	} {
		box, e := stroke.Box(x.s)
		way, f := stroke.Way(x.s)
		first, last, g := stroke.Ends(x.s)
		if e != api.OK || f != api.OK || g != api.OK || box != x.box || way != x.way || first != x.first || last != x.last {
			t.Errorf("%d: %v, %d; %d, %d; %v, %v, %d", i, box, e, way, f, first, last, g)
		}
	}
	// The longest way that there is.
	s := repeated(200)
	for i := range s.Dots {
		s.Dots[i].Y = i % 2 * 4095
	}
	if n, e := stroke.Way(s); e != api.OK || n != 199*4095 {
		t.Errorf("the longest way: %d, %d", n, e)
	}
}

// P5.1: Box, Way and Ends of any strokes, dot by dot.
func TestMeasuresAny(t *testing.T) {
	r := source()
	for range 2000 {
		s := anyStroke(r, 1+r.Intn(200))
		l, way := places(s), 0
		var x, y []int
		for i, p := range l {
			x, y = append(x, p.X), append(y, p.Y)
			if i > 0 {
				way += int(max(math.Abs(float64(p.X-l[i-1].X)), math.Abs(float64(p.Y-l[i-1].Y))))
			}
		}
		slices.Sort(x)
		slices.Sort(y)
		last := len(l) - 1
		if box, e := stroke.Box(s); e != api.OK || box != (api.Rect{X: x[0], Y: y[0], W: x[last] - x[0], H: y[last] - y[0]}) {
			t.Fatalf("Box of %s = %v, %d", text(s), box, e)
		}
		if n, e := stroke.Way(s); e != api.OK || n != way {
			t.Fatalf("Way of %s = %d, %d; want %d", text(s), n, e, way)
		}
		if a, b, e := stroke.Ends(s); e != api.OK || a != l[0] || b != l[last] {
			t.Fatalf("Ends of %s = %v, %v, %d", text(s), a, b, e)
		}
	}
}

// P5.1: no function changes its arguments, or what is behind them, and each result is memory of its own.
func TestMemory(t *testing.T) {
	// Behind both arguments is memory that no call may write to.
	dots := append(example().Dots, api.Dot{X: 1, Y: 2, At: 3, Press: 4}, api.Dot{X: 5, Y: 6, At: 7, Press: 8})
	indices := []int{0, 1, 2, 3, 4, -1, -2}
	s, kept := api.Stroke{Person: 2, Number: 7, Dots: dots[:5]}, indices[:5]
	allDots, allIndices := slices.Clone(dots), slices.Clone(indices)
	all := func() (api.Stroke, api.Stroke, api.Stroke, []int) {
		k, _ := stroke.Kept(s, kept)
		m, _ := stroke.Moved(s, 0, 0)
		u, _ := stroke.Turned(s, 0)
		l, _ := stroke.Thin(s, 2)
		stroke.Box(s)
		stroke.Way(s)
		stroke.Ends(s)
		stroke.Code(s)
		stroke.Same(s, s)
		stroke.Within(s, at(0, 0), 5)
		return k, m, u, l
	}
	k, m, u, l := all()
	if !equal(s, example()) || !slices.Equal(dots, allDots) || !slices.Equal(indices, allIndices) {
		t.Error("an argument has changed")
	}
	for _, x := range []api.Stroke{k, m, u} {
		for i := range x.Dots[:cap(x.Dots)] {
			x.Dots[:cap(x.Dots)][i] = api.Dot{X: 1, Y: 1, At: 1, Press: 1}
		}
	}
	for i := range l[:cap(l)] {
		l[:cap(l)][i] = -1
	}
	if !equal(s, example()) || !slices.Equal(dots, allDots) || !slices.Equal(indices, allIndices) {
		t.Error("a result shares memory with an argument")
	}
	k, m, u, l = all()
	if !equal(k, example()) || !equal(m, example()) || !equal(u, example()) || !slices.Equal(l, []int{0, 2, 4}) {
		t.Error("a result shares memory with one of an earlier call")
	}
	clear(dots)
	clear(indices)
	if !equal(k, example()) || !equal(m, example()) || !equal(u, example()) || !slices.Equal(l, []int{0, 2, 4}) {
		t.Error("a result has changed with an argument")
	}
}
