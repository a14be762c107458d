package reading_test

import (
	"math"
	"slices"
	"testing"

	"slatewall/api"
	"slatewall/reading"
)

// lines are so many strokes of a person, with the numbers from 1 on.
func lines(count int) []api.Stroke {
	var l []api.Stroke
	for i := range count {
		l = append(l, line(i+1))
	}
	return l
}

// invalid are strokes that are not valid, each for another reason.
func invalid() []api.Stroke {
	var all []api.Stroke
	add := func(change func(*api.Stroke)) {
		s := hook(500)
		change(&s)
		all = append(all, s)
	}
	for _, n := range []int{-1, 5000000, math.MinInt, math.MaxInt} {
		add(func(s *api.Stroke) { s.Person = n })
		add(func(s *api.Stroke) { s.Number = n })
		add(func(s *api.Stroke) { s.Dots[0].X = n })
		add(func(s *api.Stroke) { s.Dots[2].Y = n })
		add(func(s *api.Stroke) { s.Dots[1].Press = n })
		add(func(s *api.Stroke) { s.Dots[1].At = n })
	}
	add(func(s *api.Stroke) { s.Person = 40 })
	add(func(s *api.Stroke) { s.Number = 0 })
	add(func(s *api.Stroke) { s.Number = 1000 })
	add(func(s *api.Stroke) { s.Dots[1].X = 4096 })
	add(func(s *api.Stroke) { s.Dots[1].At = s.Dots[2].At + 1 })
	add(func(s *api.Stroke) { s.Dots = nil })
	add(func(s *api.Stroke) { s.Dots = make([]api.Dot, 201) })
	return append(all, api.Stroke{})
}

// wantRefused checks that no function takes some strokes, nor any reading of them.
func wantRefused(t *testing.T, l []api.Stroke) {
	t.Helper()
	if reading.Valid(l) {
		t.Errorf("Valid(%.300v)", l)
	}
	if r, e := reading.Read(l); e != api.ErrReading || !isSame(r, api.Reading{}) {
		t.Errorf("Read(%.300v) = %v, %d", l, r, e)
	}
	for _, n := range []int{0, 1, 2, len(l) - 1, len(l), len(l) + 1, -1, math.MinInt, math.MaxInt} {
		if k, e := reading.Stays(l, n); e != api.ErrReading || k != 0 {
			t.Errorf("Stays(%.300v, %d) = %d, %d", l, n, k, e)
		}
		for _, to := range []int{n - 1, n, n + 1, n + 2} {
			wantNoRun(t, l, n, to)
		}
	}
	// Each one is a line, and none of them is made longer.
	r := api.Reading{Least: make([]int, len(l)+1), Next: 6}
	if len(l) > 0 {
		r.Person = l[0].Person
	}
	for i := range l {
		r.Runs = append(r.Runs, api.Run{From: i, To: i + 1, Kind: api.SLine})
	}
	wantWrong(t, l, api.Reading{})
	wantWrong(t, l, r)
}

// wantNoRun checks that there is no run from an index up to another one.
func wantNoRun(t *testing.T, l []api.Stroke, from, to int) {
	t.Helper()
	if r, e := reading.Of(l, from, to); e != api.ErrReading || r != (api.Run{}) {
		t.Errorf("Of(%.300v, %d, %d) = %v, %d", l, from, to, r, e)
	}
}

// wantWrong checks that a reading is not right for some strokes.
func wantWrong(t *testing.T, l []api.Stroke, r api.Reading) {
	t.Helper()
	if reading.Check(l, r) {
		t.Errorf("Check(%.300v, %v)", l, r)
	}
	if s, e := reading.Shapes(l, r); e != api.ErrReading || len(s) != 0 {
		t.Errorf("Shapes(%.300v, %v) = %v, %d", l, r, s, e)
	}
}

// P9.1: a stroke that is not valid is not, at whatever index.
func TestNotValid(t *testing.T) {
	for _, s := range invalid() {
		wantRefused(t, []api.Stroke{s})
		for _, count := range []int{2, 3, 60} {
			for i := range count {
				l := lines(count)
				l[i] = s
				if i == 0 || count < 60 || i%10 == 9 {
					wantRefused(t, l)
				}
				// Nor together with other strokes of a person that there cannot be.
				for k := range l {
					l[k].Person = s.Person
				}
				if count < 4 {
					wantRefused(t, l)
				}
			}
		}
	}
}

// P9.1: strokes of different persons, with the same numbers, or too many are not valid together.
func TestNotTogether(t *testing.T) {
	for _, count := range []int{2, 3, 4, 60} {
		for i := range count {
			l := lines(count)
			l[i].Person = []int{0, 2, 4, 39}[i%4]
			wantRefused(t, l)
			for k := range i {
				if count < 5 || k%9 == 0 || k == i-1 {
					l = lines(count)
					l[i] = hook(k + 1)
					wantRefused(t, l)
				}
			}
		}
	}
	l := lines(60)
	wantRefused(t, append(l, line(61)))
	wantRefused(t, append(l, line(60)))
	wantRefused(t, lines(900))
	wantRefused(t, make([]api.Stroke, 100000))
	wantRefused(t, slices.Repeat([]api.Stroke{line(1)}, 60))
}

// P9.1: as many strokes as there can be, of the first person and of the last one, with the least and the greatest numbers, in any order.
func TestValid(t *testing.T) {
	for _, count := range []int{0, 1, 2, 59, 60} {
		for _, person := range []int{0, 1, 39} {
			l := lines(count)
			for i := range l {
				l[i].Person, l[i].Number = person, 999-i*7%999
				if i == 30 {
					l[i].Number = 1
				}
			}
			read(t, l)
			slices.Reverse(l)
			read(t, l)
		}
	}
	if !reading.Valid(nil) || !reading.Valid([]api.Stroke{}) {
		t.Error("no strokes are not valid")
	}
}

// P9.1: runs by hand.
func TestOf(t *testing.T) {
	l := []api.Stroke{line(1), hook(2), dot(3), box(4), mark(5), mark(6)}
	for _, x := range []api.Run{
		{From: 0, To: 1, Kind: api.SLine}, {From: 0, To: 2, Kind: api.SArrow},
		{From: 1, To: 2, Kind: api.SLine, Cost: 6}, {From: 1, To: 3, Kind: api.SLetter, Cost: 10},
		{From: 2, To: 3, Kind: api.SLetter, Cost: 7}, {From: 3, To: 4, Kind: api.SBox},
		{From: 4, To: 5, Kind: api.SMark, Cost: 45}, {From: 4, To: 6, Kind: api.SMark, Cost: 90}, {From: 5, To: 6, Kind: api.SMark, Cost: 45},
	} {
		if r, e := reading.Of(l, x.From, x.To); e != api.OK || r != x {
			t.Errorf("Of(%d, %d) = %v, %d; want %v", x.From, x.To, r, e, x)
		}
	}
	// The narrow one is a line for as much as it is a letter: the lesser kind.
	if r, e := reading.Of([]api.Stroke{narrow(1)}, 0, 1); e != api.OK || r != (api.Run{To: 1, Kind: api.SLine, Cost: 6}) {
		t.Errorf("Of = %v, %d", r, e)
	}
}

// P9.1: runs of any strokes; and what is not one or two of them.
func TestOfAny(t *testing.T) {
	r := source()
	for i := range 300 {
		l := anyStrokes(r, r.Intn(6))
		if i == 0 {
			l = anyStrokes(r, 60)
		}
		all := tableOf(l)
		for from := -3; from <= len(l)+3; from++ {
			for to := from - 3; to <= from+4; to++ {
				if from < 0 || to > len(l) || to-from < 1 || to-from > 2 {
					wantNoRun(t, l, from, to)
				} else if run, e := reading.Of(l, from, to); e != api.OK || run != all.best(from, to) {
					t.Errorf("Of(%v, %d, %d) = %v, %d", l, from, to, run, e)
				}
			}
		}
		for _, far := range []int{math.MinInt, math.MinInt + 1, math.MinInt + 2, math.MaxInt, math.MaxInt - 1, math.MaxInt - 2, 1 << 32, 1<<32 + 1} {
			for _, near := range []int{0, 1, len(l), far, far + 1, far + 2} {
				wantNoRun(t, l, far, near)
				wantNoRun(t, l, near, far)
			}
		}
	}
}

// P9.1: the limits of k.
func TestStaysLimits(t *testing.T) {
	for _, count := range []int{0, 1, 2, 60} {
		l := lines(count)
		for _, k := range []int{-1, -2, count + 1, count + 2, 61, 62, math.MinInt, math.MaxInt} {
			if n, e := reading.Stays(l, k); e != api.ErrReading || n != 0 {
				t.Errorf("Stays(%d lines, %d) = %d, %d", count, k, n, e)
			}
		}
		for k := range count + 1 {
			if n, e := reading.Stays(l, k); e != api.OK || n != k {
				t.Errorf("Stays(%d lines, %d) = %d, %d", count, k, n, e)
			}
		}
	}
}

// roomy are strokes in memory that goes on behind them: further strokes, and further dots.
func roomy(l []api.Stroke) []api.Stroke {
	all := make([]api.Stroke, 0, len(l)+2)
	for _, s := range l {
		s.Dots = append(slices.Clone(s.Dots), api.Dot{X: 77}, api.Dot{X: 78})[:len(s.Dots)]
		all = append(all, s)
	}
	return append(all, api.Stroke{Person: 5}, api.Stroke{Person: 6})[:len(l)]
}

// sameMemory says whether strokes, what is behind them, and behind their dots, are equal.
func sameMemory(a, b []api.Stroke) bool {
	return slices.EqualFunc(a[:len(a)+2], b[:len(b)+2], func(a, b api.Stroke) bool {
		return a.Person == b.Person && a.Number == b.Number && slices.Equal(a.Dots[:min(cap(a.Dots), len(a.Dots)+2)], b.Dots[:min(cap(b.Dots), len(b.Dots)+2)])
	})
}

// P9.1: no function changes its arguments, nor what is behind them in memory.
func TestArgumentsStay(t *testing.T) {
	r := source()
	for range 300 {
		l := anyStrokes(r, 1+r.Intn(8))
		a, b := roomy(l), roomy(l)
		good, _ := reading.Read(a)
		good.Runs = append(good.Runs, api.Run{From: 9}, api.Run{From: 9})
		good.Least = append(good.Least, 9, 9)
		runs, least := slices.Clone(good.Runs), slices.Clone(good.Least)
		x := good
		x.Runs, x.Least = x.Runs[:len(runs)-2], x.Least[:len(least)-2]
		y := cloned(x)
		if s, e := reading.Shapes(a, x); e != api.OK || len(s) != len(x.Runs) {
			t.Errorf("Shapes(%v, %v) = %v, %d", a, x, s, e)
		}
		reading.Valid(a)
		reading.Of(a, 0, 1)
		reading.Stays(a, r.Intn(len(l)+1))
		reading.Check(a, x)
		reading.Same(x, x)
		if !sameMemory(a, b) || !isSame(x, y) || !slices.Equal(good.Runs, runs) || !slices.Equal(good.Least, least) {
			t.Errorf("%v has become %v, or %v %v", b, a, y, x)
		}
	}
}

// P9.1: results are new memory, whatever was done with those before, and with the arguments.
func TestResultsAreNew(t *testing.T) {
	r := source()
	for range 300 {
		l := anyStrokes(r, 1+r.Intn(8))
		kept := copied(l)
		a, _ := reading.Read(l)
		b, _ := reading.Read(l)
		s, _ := reading.Shapes(l, a)
		u, _ := reading.Shapes(l, a)
		want := slices.Clone(u)
		clear(a.Runs[:cap(a.Runs)])
		clear(a.Least[:cap(a.Least)])
		clear(s[:cap(s)])
		for _, s := range l {
			clear(s.Dots)
		}
		clear(l)
		if c := read(t, kept); !isSame(b, c) || !slices.Equal(u, want) {
			t.Errorf("the reading of %v is %v, after another one of it was cleared; want %v", kept, b, c)
		}
	}
}
