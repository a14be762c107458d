package template_test

import (
	"math/rand"
	"slices"
	"testing"

	"slatewall/api"
	"slatewall/stroke"
	"slatewall/template"
)

// This file makes strokes, and computes results in another way than the package does: from the chapter's definitions, with maps and lists.

// source is the same for every run of a test.
func source() *rand.Rand { return rand.New(rand.NewSource(8)) }

// at returns a place.
func at(x int, y int) api.Place { return api.Place{X: x, Y: y} }

// of returns a stroke of the person 2 with a number, with these X and Y in turn.
func of(number int, l ...int) api.Stroke {
	s := api.Stroke{Person: 2, Number: number}
	for i := 0; i+1 < len(l); i += 2 {
		s.Dots = append(s.Dots, api.Dot{X: l[i], Y: l[i+1], At: 3 * i, Press: i % 101})
	}
	return s
}

// through returns a stroke of the person 2 with a number, with dots at some places.
func through(number int, l []api.Place) api.Stroke {
	s := api.Stroke{Person: 2, Number: number}
	for i, p := range l {
		s.Dots = append(s.Dots, api.Dot{X: p.X, Y: p.Y, At: 7 * i, Press: 50})
	}
	return s
}

// example is the stroke of the chapter's examples.
func example() api.Stroke { return of(7, 100, 100, 900, 100, 900, 500, 100, 500, 100, 110) }

// zigzag is a stroke of so many dots, all of which Thin keeps.
func zigzag(number int, dots int) api.Stroke {
	var l []api.Place
	for i := range dots {
		l = append(l, at(1000*(i/50)+i%2*500, 80*(i%50)))
	}
	return through(number, l)
}

// places are the places of the dots.
func places(s api.Stroke) []api.Place {
	var l []api.Place
	for _, d := range s.Dots {
		l = append(l, at(d.X, d.Y))
	}
	return l
}

// copied are equal strokes in memory of their own.
func copied(l []api.Stroke) []api.Stroke {
	var all []api.Stroke
	for _, s := range l {
		s.Dots = slices.Clone(s.Dots)
		all = append(all, s)
	}
	return all
}

// onto is the nearest number that a place can have.
func onto(n int) int { return min(max(n, 0), api.MaxPlace) }

// outside are places that are not on the board, each for another reason.
func outside() []api.Place {
	var l []api.Place
	for _, n := range []int{-1, 4096, -1 << 62, 1 << 62, -1 << 63, 1<<63 - 1} {
		l = append(l, at(n, 0), at(0, n), at(n, 4095), at(4095, n), at(n, n))
	}
	return l
}

// steps are the directions that a text has the digits of.
func steps(text string) []int {
	var l []int
	for _, c := range text {
		l = append(l, int(c-'0'))
	}
	return l
}

// anySteps are so many directions, often few different ones.
func anySteps(r *rand.Rand, count int) []int {
	first, most := r.Intn(8), []int{1, 2, 3, 8, 8}[r.Intn(5)]
	var l []int
	for range count {
		l = append(l, (first+r.Intn(most))%8)
	}
	return l
}

// changed are directions of which some are left out, added or exchanged, and not too many.
func changed(r *rand.Rand, l []int) []int {
	l = slices.Clone(l)
	for range r.Intn(6) {
		i := r.Intn(len(l) + 1)
		switch {
		case r.Intn(3) == 0 && len(l) < api.MaxDots:
			l = slices.Insert(l, i, r.Intn(8))
		case i < len(l) && r.Intn(2) == 0:
			l = slices.Delete(l, i, i+1)
		case i < len(l):
			l[i] = r.Intn(8)
		}
	}
	return l
}

// way are places that go from a first one in some directions, each as far as side says.
func way(first api.Place, l []int, side func() int) []api.Place {
	all := []api.Place{first}
	for _, d := range l {
		n := side()
		first = at(first.X+n*[]int{1, 1, 0, -1, -1, -1, 0, 1}[d], first.Y+n*[]int{0, 1, 1, 1, 0, -1, -1, -1}[d])
		all = append(all, first)
	}
	return all
}

// drawings are the templates, as texts: boxes, and letters of one stroke.
var (
	boxTexts = []string{"0246", "2460", "4602", "6024", "0642", "6420", "4206", "2064"}
	oneTexts = map[string]string{"I": "2", "L": "20", "M": "6172", "N": "616", "V": "17", "Z": "030"}
	twoTexts = map[string][2]string{"T": {"0", "2"}, "X": {"1", "3"}}
)

// shaken are places each of which is moved by at most so much.
func shaken(r *rand.Rand, l []api.Place, most int) []api.Place {
	var all []api.Place
	for _, p := range l {
		all = append(all, at(onto(p.X+r.Intn(2*most+1)-most), onto(p.Y+r.Intn(2*most+1)-most)))
	}
	return all
}

// dotted are places with further ones on the straight lines between them, as near to these as whole numbers are.
func dotted(r *rand.Rand, l []api.Place) []api.Place {
	all := []api.Place{l[0]}
	for i := 1; i < len(l); i++ {
		a, b, parts := l[i-1], l[i], 1+r.Intn(4)
		for k := 1; k <= parts; k++ {
			all = append(all, at(a.X+(b.X-a.X)*k/parts, a.Y+(b.Y-a.Y)*k/parts))
		}
	}
	return all
}

// anyPlaces are where a stroke has dots that is of one of several sorts: a dot, a box, a letter or a line of some bends, all of them drawn badly; on few places; wandering; anywhere; or long.
func anyPlaces(r *rand.Rand) []api.Place {
	first, sort := at(1500+r.Intn(1000), 1500+r.Intn(1000)), r.Intn(9)
	long := func() int { return 60 + r.Intn(250) }
	switch sort {
	case 0:
		return []api.Place{first}
	case 1:
		side, sides := 0, [2]int{60 + r.Intn(500), 60 + r.Intn(500)}
		around := way(first, steps(boxTexts[r.Intn(8)]), func() int { side++; return sides[side%2] })
		return shaken(r, dotted(r, around), 1+r.Intn(90))
	case 2:
		words := []string{"I", "L", "M", "N", "V", "Z"}
		return shaken(r, dotted(r, way(first, steps(oneTexts[words[r.Intn(6)]]), long)), 1+r.Intn(60))
	case 3:
		return shaken(r, dotted(r, way(first, anySteps(r, 1+r.Intn(4)), long)), 1+r.Intn(60))
	}
	var l []api.Place
	for range 1 + r.Intn([]int{4, 12, 24}[r.Intn(3)]) {
		switch sort {
		case 4, 5:
			l = append(l, at(100+100*r.Intn(3), 200+100*r.Intn(3)))
		case 6:
			first = at(onto(first.X+r.Intn(401)-200), onto(first.Y+r.Intn(401)-200))
			l = append(l, first)
		default:
			l = append(l, at(r.Intn(4096), r.Intn(4096)))
		}
	}
	return l
}

// anyStroke is a valid stroke.
func anyStroke(r *rand.Rand) api.Stroke {
	s := through(1+r.Intn(api.MaxNumber), anyPlaces(r))
	s.Person = r.Intn(api.MaxPersons)
	return s
}

// anyArrow are a stroke and another one that is often near to its end.
func anyArrow(r *rand.Rand) []api.Stroke {
	shaft, hook := anyStroke(r), anyPlaces(r)
	end := places(shaft)[len(shaft.Dots)-1]
	middle := hook[len(hook)/2]
	x, y := end.X-middle.X+r.Intn(301)-150, end.Y-middle.Y+r.Intn(301)-150
	for i, p := range hook {
		hook[i] = at(onto(p.X+x), onto(p.Y+y))
	}
	head := through(1+(shaft.Number+r.Intn(998))%api.MaxNumber, hook)
	head.Person = shaft.Person
	return []api.Stroke{shaft, head}
}

// anyReadable is a list of one or two strokes that are readable.
func anyReadable(r *rand.Rand) []api.Stroke {
	switch r.Intn(4) {
	case 0:
		a, b := anyStroke(r), anyStroke(r)
		if a.Person != b.Person || a.Number != b.Number {
			return []api.Stroke{a, b}
		}
	case 1:
		return anyArrow(r)
	}
	return []api.Stroke{anyStroke(r)}
}

// plainDirection turns the board until the other place is to the right of the first one, or below to the right.
func plainDirection(x int, y int) int {
	if x == 0 && y == 0 {
		return 0
	}
	for quarter := 0; ; quarter++ {
		if x > 0 && 2*max(y, -y) <= x {
			return 2 * quarter
		}
		if x > 0 && y > 0 && 2*y > x && 2*x > y {
			return 2*quarter + 1
		}
		x, y = y, -x
	}
}

// plainTurn goes around from one direction until it comes to another one.
func plainTurn(a int, b int) int {
	for n := 0; ; n++ {
		if (a+n)%8 == b || (b+n)%8 == a {
			return n
		}
	}
}

// plainFar tries, from the front, all that can be done with the first directions of two lists.
func plainFar(a []int, b []int) int {
	type ends struct{ a, b int }
	known := map[ends]int{}
	var far func(a, b []int) int
	far = func(a, b []int) int {
		if len(a) == 0 || len(b) == 0 {
			return 3 * (len(a) + len(b))
		}
		at := ends{len(a), len(b)}
		if n, ok := known[at]; ok {
			return n
		}
		known[at] = min(3+far(a[1:], b), 3+far(a, b[1:]), plainTurn(a[0], b[0])+far(a[1:], b[1:]))
		return known[at]
	}
	return far(a, b)
}

// plainFeature takes from the lower layer which dots are kept.
func plainFeature(s api.Stroke) api.Feature {
	kept, _ := stroke.Thin(s, 40)
	thin, _ := stroke.Kept(s, kept)
	f := api.Feature{Places: places(thin)}
	for i := 1; i < len(f.Places); i++ {
		f.Steps = append(f.Steps, plainDirection(f.Places[i].X-f.Places[i-1].X, f.Places[i].Y-f.Places[i-1].Y))
	}
	first, last := f.Places[0], f.Places[len(f.Places)-1]
	apart := max(first.X-last.X, last.X-first.X, first.Y-last.Y, last.Y-first.Y)
	f.Closed = len(f.Places) > 3 && apart < 121
	return f
}

// sameFeature says whether two features are equal.
func sameFeature(a, b api.Feature) bool {
	return slices.Equal(a.Places, b.Places) && slices.Equal(a.Steps, b.Steps) && a.Closed == b.Closed
}

// plainLine is what a stroke costs as a line.
func plainLine(f api.Feature) int {
	cost := map[int]int{1: 30, 2: 0}[len(f.Places)]
	for i := range f.Places {
		if i >= 2 {
			cost += 6
		}
	}
	if f.Closed {
		cost += 20
	}
	return cost
}

// plainLetter is the first letter of so many strokes that costs the least, and what it costs.
func plainLetter(l []api.Feature) (string, int) {
	word, least := "", 1<<30
	for _, w := range []string{"I", "L", "M", "N", "T", "V", "X", "Z"} {
		cost := 1 << 30
		if two, ok := twoTexts[w]; ok && len(l) == 2 {
			cost = 4 + plainFar(l[0].Steps, steps(two[0])) + plainFar(l[1].Steps, steps(two[1]))
		} else if one, ok := oneTexts[w]; ok && len(l) == 1 {
			cost = 4 + plainFar(l[0].Steps, steps(one))
		}
		if cost < least {
			word, least = w, cost
		}
	}
	return word, least
}

// plainCosts are what readable strokes cost as each kind; there is none of the kind 0.
func plainCosts(l []api.Stroke) [6]int {
	var looks []api.Feature
	for _, s := range l {
		looks = append(looks, plainFeature(s))
	}
	_, letter := plainLetter(looks)
	if len(l) == 1 {
		box := 1 << 30
		for _, text := range boxTexts {
			box = min(box, plainFar(looks[0].Steps, steps(text)))
		}
		if !looks[0].Closed {
			box += 25
		}
		return [6]int{0, plainLine(looks[0]), box, 500, letter, 45}
	}
	arrow := plainLine(looks[0])
	for n := len(looks[1].Places); n != 3; {
		arrow += 6
		if n < 3 {
			n++
		} else {
			n--
		}
	}
	end, middle := looks[0].Places[len(looks[0].Places)-1], looks[1].Places[len(looks[1].Places)/2]
	if max(end.X-middle.X, middle.X-end.X, end.Y-middle.Y, middle.Y-end.Y) > 120 {
		arrow += 40
	}
	return [6]int{0, 500, 500, arrow, letter, 90}
}

// costs are what Cost says of readable strokes and of each kind.
func costs(t *testing.T, l []api.Stroke) [6]int {
	t.Helper()
	var all [6]int
	for kind := 1; kind <= 5; kind++ {
		n, e := template.Cost(l, kind)
		if e != api.OK {
			t.Fatalf("Cost(%v, %d): %d", l, kind, e)
		}
		all[kind] = n
	}
	return all
}
