package template_test

import (
	"math/rand"
	"slices"
	"testing"

	"slatewall/api"
	"slatewall/stroke"
	"slatewall/template"
)

// turnedSteps are directions, all turned by the same one.
func turnedSteps(l []int, by int) []int {
	var all []int
	for _, d := range l {
		all = append(all, (d+by)%8)
	}
	return all
}

// wantDistance checks P8.2 of three lists.
func wantDistance(t *testing.T, a, b, c []int, by int) {
	t.Helper()
	n := template.Far(a, b)
	if n < 0 || (n == 0) != slices.Equal(a, b) || template.Far(a, a) != 0 {
		t.Errorf("Far(%v, %v) = %d", a, b, n)
	}
	if m := template.Far(b, a); m != n {
		t.Errorf("Far(%v, %v) = %d, but %d the other way", a, b, n, m)
	}
	if m := template.Far(a, c) + template.Far(c, b); n > m {
		t.Errorf("Far(%v, %v) = %d, but %d by way of %v", a, b, n, m, c)
	}
	if m := template.Far(turnedSteps(a, by), turnedSteps(b, by)); m != n {
		t.Errorf("Far(%v, %v) = %d, but %d turned by %d", a, b, n, m, by)
	}
}

// P8.2: Far is a distance, and turning both lists does not change it.
func TestDistances(t *testing.T) {
	r := source()
	for i := range 6000 {
		most := []int{3, 6, 20}[r.Intn(3)]
		if i%50 == 0 {
			most = api.MaxDots + 1
		}
		a := anySteps(r, r.Intn(most))
		b, c := changed(r, a), changed(r, a)
		if r.Intn(3) == 0 {
			b, c = anySteps(r, r.Intn(most)), changed(r, b)
		}
		wantDistance(t, a, b, c, r.Intn(8))
	}
}

// P8.2: of all lists of at most two directions, by way of each other one, and turned by each direction.
func TestDistancesSmall(t *testing.T) {
	lists := [][]int{nil}
	for a := range 8 {
		lists = append(lists, []int{a})
		for b := range 8 {
			lists = append(lists, []int{a, b})
		}
	}
	for i, a := range lists {
		for k, b := range lists {
			for n, c := range lists {
				wantDistance(t, a, b, c, (i+k+n)%8)
			}
		}
	}
}

// moved are strokes that are moved together, to anywhere where all of them are on the board.
func moved(t *testing.T, r *rand.Rand, l []api.Stroke) []api.Stroke {
	t.Helper()
	s, _ := template.Shape(l, api.SMark)
	x, y := r.Intn(4096-s.Rect.W)-s.Rect.X, r.Intn(4096-s.Rect.H)-s.Rect.Y
	return redrawn(t, l, func(s api.Stroke) (api.Stroke, api.Errno) { return stroke.Moved(s, x, y) })
}

// redrawn are strokes, each of them changed.
func redrawn(t *testing.T, l []api.Stroke, change func(api.Stroke) (api.Stroke, api.Errno)) []api.Stroke {
	t.Helper()
	var all []api.Stroke
	for _, s := range l {
		u, e := change(s)
		if e != api.OK {
			t.Fatalf("%v cannot be changed: %d", s, e)
		}
		all = append(all, u)
	}
	return all
}

// P8.3: moving all strokes changes no cost.
func TestMoving(t *testing.T) {
	r := source()
	for range 2000 {
		l := anyReadable(r)
		u := moved(t, r, l)
		if a, b := costs(t, l), costs(t, u); a != b {
			t.Errorf("%v costs %v, and moved, %v", l, a, b)
		}
	}
}

// P8.3: turning the board by quarters changes no cost, but that of letters.
func TestTurning(t *testing.T) {
	r := source()
	others := 0
	for range 2000 {
		l, quarters := anyReadable(r), 1+r.Intn(3)
		u := redrawn(t, l, func(s api.Stroke) (api.Stroke, api.Errno) { return stroke.Turned(s, quarters) })
		a, b := costs(t, l), costs(t, u)
		if a[api.SLetter] != b[api.SLetter] {
			others++
		}
		a[api.SLetter], b[api.SLetter] = 0, 0
		if a != b {
			t.Errorf("%v costs %v, and turned by %d, %v", l, a, quarters, b)
		}
	}
	if others < 500 {
		t.Errorf("only %d letters have changed", others)
	}
}

// P8.3: strokes that go nowhere, to and fro, or back to where they began, turned.
func TestTurningBack(t *testing.T) {
	for _, s := range []api.Stroke{of(1, 5, 5), of(1, 5, 5, 5, 5), of(1, 5, 5, 5, 5, 5, 5), of(1, 5, 5, 25, 5, 5, 5), of(1, 5, 5, 500, 5, 5, 5), of(1, 5, 5, 500, 5, 500, 5, 5, 5, 5, 5), of(1, 5, 5, 500, 5, 500, 500, 5, 5)} {
		for quarters := range 4 {
			u, e := stroke.Turned(s, quarters)
			a, b := costs(t, []api.Stroke{s}), costs(t, []api.Stroke{u})
			if e != api.OK || a[1] != b[1] || a[2] != b[2] || a[3] != b[3] || a[5] != b[5] {
				t.Errorf("%v costs %v, and turned by %d, %v", s, a, quarters, b)
			}
		}
	}
}

// P8.4: no kind costs less than the cheapest one, what fits a kind is not dearer than a mark, and neither is the cheapest reading.
func TestCheapest(t *testing.T) {
	r := source()
	fit := [6]int{}
	for range 4000 {
		l := anyReadable(r)
		all := costs(t, l)
		kind, n, e := template.Cheapest(l)
		if e != api.OK || all[kind] != n || n != slices.Min(all[1:]) || n > all[api.SMark] {
			t.Errorf("Cheapest(%v) = %d, %d, %d, of %v", l, kind, n, e, all)
		}
		for kind := 1; kind <= 5; kind++ {
			if template.Fits(l, kind) {
				fit[kind]++
				if all[kind] > all[api.SMark] {
					t.Errorf("%v fits %d, but costs %v", l, kind, all)
				}
			}
		}
	}
	for kind := 1; kind <= 4; kind++ {
		if fit[kind] < 100 {
			t.Errorf("only %d fit %d", fit[kind], kind)
		}
	}
}

// P8.5: the rectangle contains all dots, and touches them on all sides; the code is that of the first stroke; both ends are in the rectangle.
func TestShapesHaveDots(t *testing.T) {
	r := source()
	for range 3000 {
		l := anyReadable(r)
		for kind := 1; kind <= 5; kind++ {
			s, e := template.Shape(l, kind)
			if e != api.OK {
				continue
			}
			in := func(p api.Place) bool {
				return s.Rect.X <= p.X && p.X <= s.Rect.X+s.Rect.W && s.Rect.Y <= p.Y && p.Y <= s.Rect.Y+s.Rect.H
			}
			var left, right, top, bottom bool
			for _, p := range slices.Concat(places(l[0]), places(l[len(l)-1])) {
				left, right = left || p.X == s.Rect.X, right || p.X == s.Rect.X+s.Rect.W
				top, bottom = top || p.Y == s.Rect.Y, bottom || p.Y == s.Rect.Y+s.Rect.H
				if !in(p) {
					t.Errorf("%v is read as %v without %v", l, s, p)
				}
			}
			if !left || !right || !top || !bottom || s.Code != stroke.Code(l[0]) {
				t.Errorf("%v is read as %v", l, s)
			}
			if (kind == api.SLine || kind == api.SArrow) && (!in(s.From) || !in(s.To)) {
				t.Errorf("%v is read as %v, beyond its ends", l, s)
			}
		}
	}
}

// P8.6: a feature begins and ends where the stroke does, and has a step less than places.
func TestFeatures(t *testing.T) {
	r := source()
	for range 3000 {
		s := anyStroke(r)
		f, e := template.Look(s)
		first, last, _ := stroke.Ends(s)
		if n := len(f.Places); e != api.OK || n < 1 || f.Places[0] != first || f.Places[n-1] != last || len(f.Steps) != n-1 {
			t.Errorf("Look(%v) = %v, %d", s, f, e)
		}
	}
}

// P8.6: the other direction between two different places is the opposite one.
func TestOpposite(t *testing.T) {
	wantOpposite := func(a, b api.Place) {
		there, back := template.Direction(a, b), template.Direction(b, a)
		if a != b && (there < 0 || back < 0 || (there+4)%8 != back) {
			t.Errorf("from %v to %v: %d; back: %d", a, b, there, back)
		}
	}
	for x := range 81 {
		for y := range 81 {
			wantOpposite(at(1040, 2040), at(1000+x, 2000+y))
		}
	}
	r := source()
	for range 20000 {
		wantOpposite(at(r.Intn(4096), r.Intn(4096)), at(r.Intn(4096), r.Intn(4096)))
	}
}

// between are so many places on a straight line, in order, between its ends and with them; each is a whole number of slopes from the first one.
func between(r *rand.Rand, first, slope api.Place, steps, count int) []api.Place {
	all := []int{0, steps}
	for len(all) < count {
		all = append(all, r.Intn(steps+1))
	}
	slices.Sort(all)
	var l []api.Place
	for _, k := range all {
		l = append(l, at(first.X+k*slope.X, first.Y+k*slope.Y))
	}
	return l
}

// P8.7: a straight stroke costs nothing as a line, with however many dots.
func TestStraight(t *testing.T) {
	r := source()
	for range 1000 {
		slope, count := at(r.Intn(81)-40, r.Intn(81)-40), 2+r.Intn([]int{3, 30, 199}[r.Intn(3)])
		s := through(1, between(r, at(2000, 2000), slope, r.Intn(51), count))
		if n, e := template.Cost([]api.Stroke{s}, api.SLine); e != api.OK || n != 0 {
			t.Errorf("%v costs %d as a line, %d", s, n, e)
		}
	}
}

// P8.7: a rectangle costs nothing as a box, from whichever corner and in whichever direction it is drawn; if it is small, with dots at its corners alone, since Thin cuts corners of small ones.
func TestRectangles(t *testing.T) {
	r := source()
	for i := range 500 {
		least := []int{57, 180}[i%2]
		w, h := least+r.Intn(1000), least+r.Intn(1000)
		corners := []api.Place{at(1500, 1500), at(1500+w, 1500), at(1500+w, 1500+h), at(1500, 1500+h)}
		for start := range 4 {
			l := append(slices.Clone(corners[start:]), corners[:start+1]...)
			for range 2 {
				slices.Reverse(l)
				drawn := l
				if i%2 == 1 {
					drawn = dotted(r, l)
				}
				wantBox(t, through(1, drawn))
			}
		}
	}
	wantBox(t, of(1, 0, 0, 4095, 0, 4095, 4095, 0, 4095, 0, 0))
	wantBox(t, of(1, 0, 0, 0, 57, 57, 57, 57, 0, 0, 0))
}

// wantBox checks that a stroke costs nothing as a box, and that this is the cheapest reading.
func wantBox(t *testing.T, s api.Stroke) {
	t.Helper()
	l := []api.Stroke{s}
	n, e := template.Cost(l, api.SBox)
	if kind, m, _ := template.Cheapest(l); e != api.OK || n != 0 || kind != api.SBox || m != 0 || !template.Fits(l, api.SBox) {
		t.Errorf("%v costs %d as a box, %d, and %d as %d", s, n, e, m, kind)
	}
}

// P8.7: a letter that is drawn like its template costs 4, and is read as that letter; if it is small, with dots at its bends alone.
func TestTemplates(t *testing.T) {
	r := source()
	wantLetter := func(l []api.Stroke, word string) {
		n, e := template.Cost(l, api.SLetter)
		if s, f := template.Shape(l, api.SLetter); e != api.OK || f != api.OK || n != 4 || s.Word != word {
			t.Errorf("%v costs %d, and is read as %v, not as %s", l, n, s, word)
		}
	}
	for i := range 400 {
		least := []int{80, 300}[i%2]
		drawn := func(number int, text string) api.Stroke {
			l := way(at(2000, 2000), steps(text), func() int { return least + r.Intn(200) })
			if i%2 == 1 {
				l = dotted(r, l)
			}
			return through(number, l)
		}
		for _, word := range template.Letters() {
			if texts, ok := twoTexts[word]; ok {
				wantLetter([]api.Stroke{drawn(1, texts[0]), drawn(2, texts[1])}, word)
			} else {
				wantLetter([]api.Stroke{drawn(1, oneTexts[word])}, word)
			}
		}
	}
}
