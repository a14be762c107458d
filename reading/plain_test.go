package reading_test

import (
	"math/rand"
	"slices"
	"testing"

	"slatewall/api"
	"slatewall/reading"
	"slatewall/stroke"
	"slatewall/template"
)

// This file makes strokes, and computes results in another way than the package does: from the chapter's definitions, with lists of all sequences, or from the front.

// source is the same for every run of a test.
func source() *rand.Rand { return rand.New(rand.NewSource(9)) }

// at returns a place.
func at(x int, y int) api.Place { return api.Place{X: x, Y: y} }

// of returns a stroke of the person 3 with a number, with these X and Y in turn.
func of(number int, l ...int) api.Stroke {
	s := api.Stroke{Person: 3, Number: number}
	for i := 0; i+1 < len(l); i += 2 {
		s.Dots = append(s.Dots, api.Dot{X: l[i], Y: l[i+1], At: 2 * i, Press: i % 101})
	}
	return s
}

// Strokes by hand: for the cost 0, a line, and a box; for 6, a hook that makes an arrow of the line, and a narrow one; for 7, a dot; for 45, a mark.
func line(number int) api.Stroke { return of(number, 500, 500, 1500, 500) }
func box(number int) api.Stroke {
	return of(number, 100, 900, 900, 900, 900, 1300, 100, 1300, 100, 910)
}
func hook(number int) api.Stroke   { return of(number, 1400, 400, 1500, 500, 1400, 600) }
func narrow(number int) api.Stroke { return of(number, 100, 100, 400, 700, 700, 100) }
func dot(number int) api.Stroke    { return of(number, 3000, 3000) }
func mark(number int) api.Stroke   { return zigzag(number, 30) }

// zigzag is a stroke of up to 200 dots, all of which are places of its feature.
func zigzag(number int, dots int) api.Stroke {
	var l []int
	for i := range dots {
		l = append(l, 1000*(i/50)+i%2*500, 80*(i%50))
	}
	return of(number, l...)
}

// onto is the nearest number that a place can have.
func onto(n int) int { return min(max(n, 0), api.MaxPlace) }

// anyPlaces are where a stroke has dots that is of one of several sorts: a line, a hook near to where another stroke ends, a box, a dot, a few bends, a scribble, or a zigzag.
func anyPlaces(r *rand.Rand, end api.Place) []api.Place {
	first, x, y := at(500+r.Intn(3000), 500+r.Intn(3000)), 20+r.Intn(400), 20+r.Intn(400)
	switch r.Intn(10) {
	case 0, 1:
		return []api.Place{first, at(r.Intn(4096), r.Intn(4096))}
	case 2, 3, 4:
		end = at(onto(end.X+r.Intn(200)-100), onto(end.Y+r.Intn(200)-100))
		return []api.Place{at(onto(end.X-x), onto(end.Y-y)), end, at(onto(end.X-x), onto(end.Y+y))}
	case 5:
		return []api.Place{first, at(first.X+x, first.Y), at(first.X+x, first.Y+y), at(first.X, first.Y+y), at(first.X+r.Intn(9), first.Y+r.Intn(200))}
	case 6:
		return []api.Place{first}
	case 7:
		return []api.Place{first, at(first.X+x, onto(first.Y+2*y)), at(onto(first.X+2*x), first.Y), at(r.Intn(4096), r.Intn(4096))}[:3+r.Intn(2)]
	}
	var l []api.Place
	for i := range 3 + r.Intn(6) + r.Intn(2)*20 {
		l = append(l, at(200*(i%2)+r.Intn(50), 120*i+r.Intn(50)))
	}
	return l
}

// anyStrokes are so many strokes of a person, some of them narrow ones.
func anyStrokes(r *rand.Rand, count int) []api.Stroke {
	var l []api.Stroke
	numbers, person, end := r.Perm(api.MaxNumber), r.Intn(api.MaxPersons), at(2000, 2000)
	for i := range count {
		s := narrow(1 + numbers[i])
		if r.Intn(6) > 0 {
			s.Dots = nil
			for k, p := range anyPlaces(r, end) {
				s.Dots = append(s.Dots, api.Dot{X: p.X, Y: p.Y, At: 5 * k, Press: 40})
			}
		}
		s.Person = person
		_, end, _ = stroke.Ends(s)
		l = append(l, s)
	}
	return l
}

// copied are equal strokes in memory of their own.
func copied(l []api.Stroke) []api.Stroke {
	var all []api.Stroke
	for _, s := range l {
		s.Dots = slices.Clone(s.Dots)
		all = append(all, s)
	}
	return all
}

// cloned is an equal reading in memory of its own.
func cloned(r api.Reading) api.Reading {
	r.Runs, r.Least = slices.Clone(r.Runs), slices.Clone(r.Least)
	return r
}

// isSame says whether two readings are equal.
func isSame(a, b api.Reading) bool {
	return a.Person == b.Person && slices.Equal(a.Runs, b.Runs) && slices.Equal(a.Least, b.Least) && a.Next == b.Next
}

// table has all runs of some strokes: those that begin with each one of them.
type table [][]api.Run

// tableOf takes from the lower layer what each run costs.
func tableOf(l []api.Stroke) table {
	t := make(table, len(l))
	for from := range l {
		for to := from + 1; to <= from+2 && to <= len(l); to++ {
			for kind := 1; kind <= 5; kind++ {
				cost, _ := template.Cost(l[from:to], kind)
				t[from] = append(t[from], api.Run{From: from, To: to, Kind: kind, Cost: cost})
			}
		}
	}
	return t
}

// best is the cheapest run from an index up to another one.
func (t table) best(from, to int) api.Run {
	best := api.Run{Cost: 1 << 30}
	for _, r := range t[from] {
		if r.To == to && r.Cost < best.Cost {
			best = r
		}
	}
	return best
}

// sequences are all sequences from an index on; there are more than a thousand for four strokes.
func (t table) sequences(from int) [][]api.Run {
	if from == len(t) {
		return [][]api.Run{nil}
	}
	behind := [][][]api.Run{t.sequences(from + 1), nil}
	if from+2 <= len(t) {
		behind[1] = t.sequences(from + 2)
	}
	var all [][]api.Run
	for _, r := range t[from] {
		for _, others := range behind[r.To-from-1] {
			all = append(all, append([]api.Run{r}, others...))
		}
	}
	return all
}

// sum is what a sequence costs.
func sum(runs []api.Run) int {
	n := 0
	for _, r := range runs {
		n += r.Cost
	}
	return n
}

// two are the least and the next best cost of all sequences from an index on, found from the front; -1 if there is none.
func (t table) two(from int) [2]int {
	costs := make([][]int, len(t)+1)
	costs[from] = []int{0}
	for i := from; i < len(t); i++ {
		slices.Sort(costs[i])
		costs[i] = costs[i][:min(2, len(costs[i]))]
		for _, r := range t[i] {
			for _, n := range costs[i] {
				costs[r.To] = append(costs[r.To], n+r.Cost)
			}
		}
	}
	all := append(costs[len(t)], -1, -1)
	slices.Sort(all[:len(all)-2])
	return [2]int{all[0], all[1]}
}

// reading is what the chapter says of the reading of strokes.
func (t table) reading(person int) api.Reading {
	r := api.Reading{Person: person, Next: t.two(0)[1]}
	for i := range len(t) + 1 {
		r.Least = append(r.Least, t.two(i)[0])
	}
	for i := 0; i < len(t); {
		run := t.best(i, i+1)
		if run.Cost+r.Least[i+1] != r.Least[i] {
			run = t.best(i, i+2)
		}
		r.Runs = append(r.Runs, run)
		i = run.To
	}
	return r
}

// isRight is what the chapter says of readings that are right, for strokes of a person.
func (t table) isRight(r api.Reading, person int) bool {
	if r.Person != person || len(r.Least) != len(t)+1 || r.Least[len(t)] != 0 || r.Next != t.two(0)[1] {
		return false
	}
	for _, n := range r.Least {
		if n < 0 || n > 1000000 {
			return false
		}
	}
	for i := range t {
		for to := i + 1; to <= i+2 && to <= len(t); to++ {
			if r.Least[i] > t.best(i, to).Cost+r.Least[to] {
				return false
			}
		}
	}
	end := 0
	for _, run := range r.Runs {
		if end >= len(t) || !slices.Contains(t[end], run) {
			return false
		}
		end = run.To
	}
	return end == len(t) && sum(r.Runs) == r.Least[0]
}

// read checks that valid strokes are read as the chapter says, and returns their reading.
func read(t *testing.T, l []api.Stroke) api.Reading {
	t.Helper()
	r, e := reading.Read(l)
	person := 0
	if len(l) > 0 {
		person = l[0].Person
	}
	if want := tableOf(l).reading(person); e != api.OK || !isSame(r, want) || !reading.Check(l, r) || !reading.Valid(l) {
		t.Fatalf("Read(%v) = %v, %d; want %v", l, r, e, want)
	}
	return r
}
