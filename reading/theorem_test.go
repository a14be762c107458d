package reading_test

import (
	"slices"
	"testing"

	"slatewall/api"
	"slatewall/reading"
	"slatewall/stroke"
	"slatewall/template"
)

// P9.2: no sequence costs less than the reading, and no other one less than Next; some cost as much.
func TestCheapest(t *testing.T) {
	r := source()
	for i := range 250 {
		l := anyStrokes(r, i%6)
		x, e := reading.Read(l)
		if e != api.OK {
			t.Fatal(l, e)
		}
		all := tableOf(l)
		for from := range len(l) + 1 {
			least := 1 << 30
			for _, other := range all.sequences(from) {
				least = min(least, sum(other))
			}
			if x.Least[from] != least {
				t.Errorf("from %d on, %v costs %d, not %d", from, l, least, x.Least[from])
			}
		}
		next, found := -1, 0
		for _, other := range all.sequences(0) {
			if slices.Equal(other, x.Runs) {
				found++
			} else if n := sum(other); next < 0 || n < next {
				next = n
			}
		}
		if found != 1 || sum(x.Runs) != x.Least[0] || x.Next != next || next >= 0 && next < x.Least[0] {
			t.Errorf("%v is read as %v; the next best one costs %d", l, x, next)
		}
	}
}

// P9.3: Check accepts what Read returns; and of all sequences those that cost as little, whatever is said of the least costs.
func TestCertificates(t *testing.T) {
	r := source()
	ties := 0
	for i := range 120 {
		l := anyStrokes(r, i%5)
		good := read(t, l)
		for _, other := range tableOf(l).sequences(0) {
			x := cloned(good)
			x.Runs = other
			if ok := reading.Check(l, x); ok != (sum(other) == good.Least[0]) {
				t.Errorf("Check(%v, %v) is %t", l, x, ok)
			} else if ok {
				ties++
			}
			// It is not proven to be the cheapest one by what it costs, unless it is.
			for _, next := range []int{good.Next, good.Least[0]} {
				x.Least[0], x.Next = sum(other), next
				if reading.Check(l, x) && sum(other) != good.Least[0] {
					t.Errorf("Check(%v, %v)", l, x)
				}
			}
		}
	}
	if ties < 100 {
		t.Errorf("only %d cost as little", ties)
	}
}

// P9.4: without the strokes of its first runs, the reading of the others is what is left of it; what is drawn before does not change the least cost.
func TestBehind(t *testing.T) {
	r := source()
	for i := range 400 {
		count := 1 + r.Intn(8)
		if i%40 == 0 {
			count = api.MaxStrokes
		}
		l := anyStrokes(r, count)
		x, e := reading.Read(l)
		if e != api.OK {
			t.Fatal(l, e)
		}
		for k, run := range append(slices.Clone(x.Runs), api.Run{From: len(l)}) {
			var left []api.Run
			for _, other := range x.Runs[k:] {
				other.From, other.To = other.From-run.From, other.To-run.From
				left = append(left, other)
			}
			if y, e := reading.Read(l[run.From:]); e != api.OK || !slices.Equal(y.Runs, left) || !slices.Equal(y.Least, x.Least[run.From:]) {
				t.Errorf("%v is read as %v, and from %d on, as %v, %d", l, x, run.From, y, e)
			}
		}
		for from := range len(l) + 1 {
			if y, e := reading.Read(l[from:]); e != api.OK || !slices.Equal(y.Least, x.Least[from:]) {
				t.Errorf("%v costs %v, and from %d on, %v, %d", l, x.Least, from, y.Least, e)
			}
		}
	}
}

// P9.5: a further stroke costs what it costs alone, or together with the one before it, without which the others are read.
func TestFurther(t *testing.T) {
	r := source()
	alone, together := 0, 0
	for range 300 {
		l := anyStrokes(r, 1+r.Intn(12))
		costs := []int{0}
		for k := range l {
			x, e := reading.Read(l[:k+1])
			_, one, _ := template.Cheapest(l[k : k+1])
			want, both := costs[k]+one, 1<<30
			if k > 0 {
				_, two, _ := template.Cheapest(l[k-1 : k+1])
				both = costs[k-1] + two
			}
			if both < want {
				want = both
				together++
			} else {
				alone++
			}
			costs = append(costs, x.Least[0])
			if e != api.OK || costs[k+1] != want {
				t.Errorf("%v costs %d, not %d, %d", l[:k+1], costs[k+1], want, e)
			}
		}
	}
	if alone < 500 || together < 200 {
		t.Errorf("only %d are read alone, and %d together", alone, together)
	}
}

// P9.6: shapes, by hand.
func TestShapes(t *testing.T) {
	l := []api.Stroke{line(8), hook(9), box(7), dot(2)}
	s, e := reading.Shapes(l, read(t, l))
	want := []api.Shape{
		{Code: 3002, Kind: api.SLetter, Rect: api.Rect{X: 3000, Y: 3000}, Word: "I"},
		{Code: 3007, Kind: api.SBox, Rect: api.Rect{X: 100, Y: 900, W: 800, H: 400}},
		{Code: 3008, Kind: api.SArrow, Rect: api.Rect{X: 500, Y: 400, W: 1000, H: 200}, From: at(500, 500), To: at(1500, 500)},
	}
	if e != api.OK || !slices.Equal(s, want) {
		t.Errorf("Shapes = %v, %d", s, e)
	}
	// As which it is read is what the reading says.
	l = []api.Stroke{narrow(4)}
	r := api.Reading{Person: 3, Runs: runs(api.SLetter, 6), Least: []int{6, 0}, Next: 6}
	if s, e := reading.Shapes(l, r); e != api.OK || len(s) != 1 || s[0].Kind != api.SLetter || s[0].Word != "L" {
		t.Errorf("Shapes = %v, %d", s, e)
	}
	if s, e := reading.Shapes(nil, api.Reading{Least: []int{0}, Next: -1}); e != api.OK || len(s) != 0 {
		t.Errorf("Shapes of none = %v, %d", s, e)
	}
}

// P9.6: each stroke belongs to exactly one shape, with the code of its first stroke; all dots are in its rectangle.
func TestShapesHaveStrokes(t *testing.T) {
	r := source()
	for i := range 500 {
		count := r.Intn(9)
		if i%50 == 0 {
			count = api.MaxStrokes
		}
		l := anyStrokes(r, count)
		x := read(t, l)
		shapes, e := reading.Shapes(l, x)
		if e != api.OK || len(shapes) != len(x.Runs) || !slices.IsSortedFunc(shapes, func(a, b api.Shape) int { return a.Code - b.Code }) {
			t.Fatalf("Shapes(%v, %v) = %v, %d", l, x, shapes, e)
		}
		taken := make([]int, len(l))
		for _, run := range x.Runs {
			want, _ := template.Shape(l[run.From:run.To], run.Kind)
			k := slices.Index(shapes, want)
			if k < 0 || want.Code != stroke.Code(l[run.From]) {
				t.Fatalf("Shapes(%v, %v) = %v, without %v", l, x, shapes, want)
			}
			for i := run.From; i < run.To; i++ {
				taken[i]++
				for _, d := range l[i].Dots {
					if d.X < want.Rect.X || d.X > want.Rect.X+want.Rect.W || d.Y < want.Rect.Y || d.Y > want.Rect.Y+want.Rect.H {
						t.Errorf("%v is not in %v", d, want)
					}
				}
			}
		}
		if slices.ContainsFunc(taken, func(n int) bool { return n != 1 }) {
			t.Errorf("the runs %v have %v", x.Runs, taken)
		}
	}
}

// P9.7: strokes that are moved together are read as the same, at the same cost, in other places.
func TestMoving(t *testing.T) {
	r := source()
	for range 400 {
		l := anyStrokes(r, 1+r.Intn(10))
		low, high := at(4095, 4095), at(0, 0)
		for _, s := range l {
			for _, d := range s.Dots {
				low, high = at(min(low.X, d.X), min(low.Y, d.Y)), at(max(high.X, d.X), max(high.Y, d.Y))
			}
		}
		x, y := r.Intn(4096-high.X+low.X)-low.X, r.Intn(4096-high.Y+low.Y)-low.Y
		var moved []api.Stroke
		for _, s := range l {
			u, e := stroke.Moved(s, x, y)
			if e != api.OK {
				t.Fatal(s, x, y, e)
			}
			moved = append(moved, u)
		}
		a, b := read(t, l), read(t, moved)
		s, _ := reading.Shapes(l, a)
		u, e := reading.Shapes(moved, b)
		for i := range s {
			s[i].Rect.X, s[i].Rect.Y = s[i].Rect.X+x, s[i].Rect.Y+y
			if s[i].Kind == api.SLine || s[i].Kind == api.SArrow {
				s[i].From, s[i].To = at(s[i].From.X+x, s[i].From.Y+y), at(s[i].To.X+x, s[i].To.Y+y)
			}
		}
		if e != api.OK || !isSame(a, b) || !slices.Equal(s, u) {
			t.Errorf("%v is read as %v, %v; moved by %d, %d, as %v, %v", l, a, s, x, y, b, u)
		}
	}
}
