package template_test

import (
	"math"
	"slices"
	"testing"

	"slatewall/api"
	"slatewall/template"
)

// P8.1: the chapter's examples.
func TestExamples(t *testing.T) {
	f, e := template.Look(example())
	if e != api.OK || !f.Closed || !slices.Equal(f.Places, []api.Place{at(100, 100), at(900, 100), at(900, 500), at(100, 500), at(100, 110)}) || !slices.Equal(f.Steps, []int{0, 2, 4, 6}) {
		t.Errorf("Look = %v, %d", f, e)
	}
	l := []api.Stroke{example()}
	for kind, want := range map[int]int{api.SLine: 38, api.SBox: 0, api.SLetter: 10} {
		if n, e := template.Cost(l, kind); e != api.OK || n != want {
			t.Errorf("Cost as %d = %d, %d", kind, n, e)
		}
	}
	if s, e := template.Shape(l, api.SLetter); e != api.OK || s.Word != "N" {
		t.Errorf("Shape = %v, %d", s, e)
	}
	if kind, n, e := template.Cheapest(l); e != api.OK || kind != api.SBox || n != 0 {
		t.Errorf("Cheapest = %d, %d, %d", kind, n, e)
	}
	far(t, []int{0, 2}, []int{1, 2, 4}, 4)
}

// invalid are strokes that are not valid, each for another reason.
func invalid() []api.Stroke {
	var all []api.Stroke
	add := func(change func(*api.Stroke)) {
		s := example()
		change(&s)
		all = append(all, s)
	}
	for _, n := range []int{-1, 5000000, math.MinInt, math.MaxInt} {
		add(func(s *api.Stroke) { s.Person = n })
		add(func(s *api.Stroke) { s.Number = n })
		add(func(s *api.Stroke) { s.Dots[0].X = n })
		add(func(s *api.Stroke) { s.Dots[4].Y = n })
		add(func(s *api.Stroke) { s.Dots[2].Press = n })
		add(func(s *api.Stroke) { s.Dots[1].At = n })
	}
	add(func(s *api.Stroke) { s.Person = 40 })
	add(func(s *api.Stroke) { s.Number = 0 })
	add(func(s *api.Stroke) { s.Number = 1000 })
	add(func(s *api.Stroke) { s.Dots[1].X = 4096 })
	add(func(s *api.Stroke) { s.Dots[1].At = s.Dots[2].At + 1 })
	add(func(s *api.Stroke) { s.Dots = nil })
	add(func(s *api.Stroke) { s.Dots = make([]api.Dot, 201) })
	add(func(s *api.Stroke) { s.Dots = make([]api.Dot, 100000) })
	return append(all, api.Stroke{})
}

// wantRefused checks that no function reads some strokes as anything.
func wantRefused(t *testing.T, l []api.Stroke) {
	t.Helper()
	for _, kind := range []int{1, 2, 3, 4, 5, 0, 6, -1, math.MinInt, math.MaxInt} {
		wantNone(t, l, kind)
	}
	if kind, n, e := template.Cheapest(l); e != api.ErrTemplate || kind != 0 || n != 0 {
		t.Errorf("Cheapest(%.300v) = %d, %d, %d", l, kind, n, e)
	}
}

// wantNone checks that some strokes are not read as a kind.
func wantNone(t *testing.T, l []api.Stroke, kind int) {
	t.Helper()
	if n, e := template.Cost(l, kind); e != api.ErrTemplate || n != 0 {
		t.Errorf("Cost(%.300v, %d) = %d, %d", l, kind, n, e)
	}
	if template.Fits(l, kind) {
		t.Errorf("Fits(%.300v, %d)", l, kind)
	}
	wantShape(t, l, kind, api.Shape{})
}

// P8.1: a stroke that is not valid has no feature, and is not readable, alone, before another one or behind it.
func TestNotValid(t *testing.T) {
	for _, s := range invalid() {
		f, e := template.Look(s)
		if e != api.ErrTemplate || !sameFeature(f, api.Feature{}) {
			t.Errorf("Look(%.300v) = %v, %d", s, f, e)
		}
		wantRefused(t, []api.Stroke{s})
		wantRefused(t, []api.Stroke{s, shaft()})
		wantRefused(t, []api.Stroke{shaft(), s})
		wantRefused(t, []api.Stroke{s, s})
	}
}

// P8.1: none, three and more strokes are not readable, and neither are two with the same code.
func TestNotReadable(t *testing.T) {
	a, b, c := shaft(), example(), of(3, 1, 1)
	for _, l := range [][]api.Stroke{nil, {}, {a, b, c}, {a, b, a}, {a, a, a}, {a, a}, {b, b}, slices.Repeat([]api.Stroke{a}, 1000), make([]api.Stroke, 1), make([]api.Stroke, 2), make([]api.Stroke, 100000)} {
		wantRefused(t, l)
	}
	// Other dots make no other code; another person or number does.
	other := of(1, 100, 100, 100, 900)
	wantRefused(t, []api.Stroke{a, other})
	other.Person = 3
	wantCosts(t, []api.Stroke{a, other}, plainCosts([]api.Stroke{a, other}))
	other.Person, other.Number = 2, 2
	wantCosts(t, []api.Stroke{a, other}, plainCosts([]api.Stroke{a, other}))
}

// P8.1: there are no other kinds than five, however many strokes there are.
func TestNoKind(t *testing.T) {
	for _, l := range [][]api.Stroke{{shaft()}, {example()}, {shaft(), example()}} {
		for _, kind := range []int{0, 6, 7, -1, -2, -5, 1 << 32, 1<<32 + 1, math.MinInt, math.MinInt + 1, math.MaxInt} {
			wantNone(t, l, kind)
		}
		for _, kind := range []int{1, 2, 3, 4, 5} {
			if _, e := template.Cost(l, kind); e != api.OK {
				t.Errorf("Cost as %d: %d", kind, e)
			}
		}
	}
}

// roomy are strokes in memory that goes on behind them: further strokes, and further dots.
func roomy(l []api.Stroke) []api.Stroke {
	all := make([]api.Stroke, 0, len(l)+2)
	for _, s := range l {
		s.Dots = append(slices.Clone(s.Dots), api.Dot{X: 77}, api.Dot{X: 78})[:len(s.Dots)]
		all = append(all, s)
	}
	return append(all, api.Stroke{Person: 5}, api.Stroke{Person: 6})[:len(l)]
}

// sameMemory says whether strokes, what is behind them, and behind their dots, are equal.
func sameMemory(a, b []api.Stroke) bool {
	return slices.EqualFunc(a[:len(a)+2], b[:len(b)+2], func(a, b api.Stroke) bool {
		return a.Person == b.Person && a.Number == b.Number && slices.Equal(a.Dots[:min(cap(a.Dots), len(a.Dots)+2)], b.Dots[:min(cap(b.Dots), len(b.Dots)+2)])
	})
}

// P8.1: no function changes its arguments, nor what is behind them in memory.
func TestArgumentsStay(t *testing.T) {
	r := source()
	for range 300 {
		l := anyReadable(r)
		a, b := roomy(l), roomy(l)
		kind := 1 + r.Intn(5)
		template.Cost(a, kind)
		template.Cheapest(a)
		template.Fits(a, kind)
		template.Shape(a, kind)
		for _, s := range a {
			template.Look(s)
		}
		if !sameMemory(a, b) {
			t.Errorf("%v has become %v", b, a)
		}
		x, y := append(anySteps(r, r.Intn(20)), 9, 9), append(anySteps(r, r.Intn(20)), 9, 9)
		u, v := slices.Clone(x), slices.Clone(y)
		template.Far(x[:len(x)-2], y[:len(y)-2])
		if !slices.Equal(x, u) || !slices.Equal(y, v) {
			t.Errorf("Far has changed %v and %v", u, v)
		}
	}
}

// P8.1: a feature is new memory, whatever was done with the one before, and with the stroke.
func TestFeaturesAreNew(t *testing.T) {
	r := source()
	for range 300 {
		s := anyStroke(r)
		kept := copied([]api.Stroke{s})[0]
		f, _ := template.Look(s)
		g, _ := template.Look(s)
		clear(f.Places[:cap(f.Places)])
		clear(f.Steps[:cap(f.Steps)])
		clear(s.Dots)
		if !sameFeature(g, plainFeature(kept)) {
			t.Errorf("the feature of %v is %v, after another one of it was cleared", kept, g)
		}
	}
}
