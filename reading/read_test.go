package reading_test

import (
	"slices"
	"testing"

	"slatewall/api"
	"slatewall/reading"
)

// runs are the runs of one or two strokes that these kinds and costs are of: a negative kind is one of two strokes.
func runs(l ...int) []api.Run {
	var all []api.Run
	end := 0
	for i := 0; i+1 < len(l); i += 2 {
		r := api.Run{From: end, To: end + 1, Kind: l[i], Cost: l[i+1]}
		if l[i] < 0 {
			r.To, r.Kind = end+2, -l[i]
		}
		all, end = append(all, r), r.To
	}
	return all
}

// P9.1: the chapter's examples.
func TestExamples(t *testing.T) {
	shaft, head := of(1, 100, 100, 900, 100), of(2, 800, 0, 900, 100, 800, 200)
	l := []api.Stroke{shaft, head}
	if r, e := reading.Of(l, 0, 1); e != api.OK || r != (api.Run{To: 1, Kind: api.SLine}) {
		t.Errorf("Of the first one = %v, %d", r, e)
	}
	if r, e := reading.Of(l, 0, 2); e != api.OK || r != (api.Run{To: 2, Kind: api.SArrow}) {
		t.Errorf("Of both = %v, %d", r, e)
	}
	want := api.Reading{Person: 3, Runs: runs(-api.SArrow, 0), Least: []int{0, 6, 0}, Next: 6}
	if r := read(t, l); !isSame(r, want) {
		t.Errorf("Read = %v", r)
	}
}

// P9.1: readings by hand.
func TestRead(t *testing.T) {
	for _, x := range []struct {
		l    []api.Stroke
		want api.Reading
	}{
		{nil, api.Reading{Least: []int{0}, Next: -1}},
		{[]api.Stroke{line(1)}, api.Reading{Runs: runs(1, 0), Least: []int{0, 0}, Next: 6}},
		{[]api.Stroke{dot(1)}, api.Reading{Runs: runs(4, 7), Least: []int{7, 0}, Next: 30}},
		{[]api.Stroke{mark(1)}, api.Reading{Runs: runs(5, 45), Least: []int{45, 0}, Next: 83}},
		// A letter, of which a mark is the next best reading.
		{[]api.Stroke{zigzag(1, 14)}, api.Reading{Runs: runs(4, 35), Least: []int{35, 0}, Next: 45}},
		// The other kind costs as much.
		{[]api.Stroke{narrow(1)}, api.Reading{Runs: runs(1, 6), Least: []int{6, 0}, Next: 6}},
		// As an arrow, which it cannot be, it costs 500: less than as what it can be, but for a mark.
		{[]api.Stroke{zigzag(1, 200)}, api.Reading{Runs: runs(5, 45), Least: []int{45, 0}, Next: 500}},
		// An arrow is drawn in its order: from the shaft on.
		{[]api.Stroke{line(1), hook(2)}, api.Reading{Runs: runs(-3, 0), Least: []int{0, 6, 0}, Next: 6}},
		{[]api.Stroke{line(2), hook(1)}, api.Reading{Runs: runs(-3, 0), Least: []int{0, 6, 0}, Next: 6}},
		{[]api.Stroke{hook(1), line(2)}, api.Reading{Runs: runs(1, 6, 1, 0), Least: []int{6, 0, 0}, Next: 8}},
		// Two letters for 7 each, or one for 10.
		{[]api.Stroke{dot(1), dot(2)}, api.Reading{Runs: runs(-4, 10), Least: []int{10, 7, 0}, Next: 14}},
		{[]api.Stroke{dot(1), dot(2), dot(3)}, api.Reading{Runs: runs(4, 7, -4, 10), Least: []int{17, 10, 7, 0}, Next: 17}},
		// Of one stroke, if it costs as much.
		{[]api.Stroke{narrow(1), narrow(2)}, api.Reading{Runs: runs(1, 6, 1, 6), Least: []int{12, 6, 0}, Next: 12}},
		{[]api.Stroke{mark(1), mark(2)}, api.Reading{Runs: runs(5, 45, 5, 45), Least: []int{90, 45, 0}, Next: 90}},
		// An arrow behind a line, of which another head would be a second one.
		{[]api.Stroke{line(1), line(2), hook(3)}, api.Reading{Runs: runs(1, 0, -3, 0), Least: []int{0, 0, 6, 0}, Next: 6}},
		{[]api.Stroke{line(1), hook(2), narrow(3)}, api.Reading{Runs: runs(-3, 0, 1, 6), Least: []int{6, 11, 6, 0}, Next: 6}},
		// A hook is the shaft of another one for as much as it is the head of a line.
		{[]api.Stroke{line(1), hook(2), hook(3)}, api.Reading{Runs: runs(1, 0, -3, 6), Least: []int{6, 6, 6, 0}, Next: 6}},
		{[]api.Stroke{box(1), line(2), hook(3), dot(4)}, api.Reading{Runs: runs(2, 0, -3, 0, 4, 7), Least: []int{7, 7, 10, 7, 0}, Next: 10}},
	} {
		if len(x.l) > 0 {
			x.want.Person = 3
		}
		if r := read(t, x.l); !isSame(r, x.want) {
			t.Errorf("Read(%v) = %v; want %v", x.l, r, x.want)
		}
	}
}

// P9.1: readings of any strokes, up to as many as there can be.
func TestReadAny(t *testing.T) {
	r := source()
	kinds, ties := map[api.Run]int{}, 0
	for i := range 1500 {
		count := r.Intn(9)
		if i%20 == 0 {
			count = r.Intn(api.MaxStrokes + 1)
		}
		l := anyStrokes(r, count)
		if i == 0 {
			l = anyStrokes(r, api.MaxStrokes)
		}
		x := read(t, l)
		for _, run := range x.Runs {
			kinds[api.Run{To: run.To - run.From, Kind: run.Kind}]++
		}
		if count > 0 && x.Next == x.Least[0] {
			ties++
		}
	}
	for _, run := range []api.Run{{To: 1, Kind: 1}, {To: 1, Kind: 2}, {To: 1, Kind: 4}, {To: 1, Kind: 5}, {To: 2, Kind: 3}, {To: 2, Kind: 4}} {
		if kinds[run] < 100 {
			t.Errorf("only %d of %d strokes are read as %d", kinds[run], run.To, run.Kind)
		}
	}
	if ties < 100 {
		t.Errorf("only %d can be read otherwise for as much", ties)
	}
}

// P9.1: strokes of as many dots as there can be.
func TestReadLong(t *testing.T) {
	var l []api.Stroke
	for i := range api.MaxStrokes {
		l = append(l, zigzag(i+1, []int{200, 199, 2}[i%3]))
	}
	read(t, l)
}

// P9.1: how many runs stay, by hand.
func TestStays(t *testing.T) {
	for _, x := range []struct {
		l    []api.Stroke
		want []int
	}{
		{nil, []int{0}},
		{[]api.Stroke{line(1)}, []int{0, 1}},
		{[]api.Stroke{line(1), hook(2)}, []int{0, 0, 1}},
		{[]api.Stroke{hook(1), line(2)}, []int{0, 1, 2}},
		{[]api.Stroke{box(1), line(2), hook(3), line(4), hook(5)}, []int{0, 1, 1, 2, 2, 3}},
		// A further dot is put to the one before it, so that all are read otherwise.
		{[]api.Stroke{dot(1), dot(2), dot(3)}, []int{0, 1, 0, 2}},
		{[]api.Stroke{dot(1), dot(2), dot(3), dot(4)}, []int{0, 0, 1, 0, 2}},
	} {
		for k, want := range x.want {
			if n, e := reading.Stays(x.l, k); e != api.OK || n != want {
				t.Errorf("Stays(%v, %d) = %d, %d; want %d", x.l, k, n, e, want)
			}
		}
	}
}

// P9.1: how many runs of any strokes stay.
func TestStaysAny(t *testing.T) {
	r := source()
	var less, all int
	for i := range 600 {
		count := 1 + r.Intn(8)
		if i%50 == 0 {
			count = api.MaxStrokes
		}
		l := anyStrokes(r, count)
		whole := read(t, l)
		for k := 0; k <= count; k += 1 + r.Intn(2)*count/20 {
			part := read(t, l[:k])
			want := 0
			for want < len(part.Runs) && want < len(whole.Runs) && part.Runs[want] == whole.Runs[want] {
				want++
			}
			if n, e := reading.Stays(l, k); e != api.OK || n != want {
				t.Errorf("Stays(%v, %d) = %d, %d; want %d", l, k, n, e, want)
			}
			if want < len(part.Runs) {
				less++
			} else {
				all++
			}
		}
	}
	if less < 300 || all < 300 {
		t.Errorf("only %d stay in part, and %d all", less, all)
	}
}

// P9.1: readings are the same if all their fields are.
func TestSame(t *testing.T) {
	r := source()
	var all []api.Reading
	for range 40 {
		x := read(t, anyStrokes(r, r.Intn(5)))
		all = append(all, x, cloned(x))
		for _, change := range changes(x) {
			y := cloned(x)
			change(&y)
			all = append(all, y)
		}
	}
	for i, x := range all {
		for k := i % 3; k < len(all); k += 3 {
			y := cloned(all[k])
			if reading.Same(x, y) != isSame(x, y) {
				t.Errorf("Same(%v, %v) is not %t", x, y, isSame(x, y))
			}
		}
		if !reading.Same(x, x) || !reading.Same(x, cloned(x)) {
			t.Errorf("%v is not the same as itself", x)
		}
	}
	if !reading.Same(api.Reading{}, api.Reading{Runs: []api.Run{}, Least: []int{}}) {
		t.Error("empty lists are not the same as none")
	}
}

// changes are ways to make another reading of one.
func changes(r api.Reading) []func(*api.Reading) {
	all := []func(*api.Reading){
		func(r *api.Reading) { r.Person++ },
		func(r *api.Reading) { r.Person-- },
		func(r *api.Reading) { r.Next++ },
		func(r *api.Reading) { r.Next-- },
		func(r *api.Reading) { r.Next = -1 - r.Next },
		func(r *api.Reading) { r.Least = nil },
		func(r *api.Reading) { r.Least = r.Least[1:] },
		func(r *api.Reading) { r.Least = r.Least[:len(r.Least)-1] },
		func(r *api.Reading) { r.Least = append(r.Least, 0) },
		func(r *api.Reading) { r.Least = slices.Insert(r.Least, 0, r.Least[0]) },
		func(r *api.Reading) { r.Runs = append(r.Runs, api.Run{}) },
		func(r *api.Reading) { r.Runs = append(r.Runs, r.Runs...) },
	}
	for i := range r.Least {
		for _, n := range []int{-1, 1, -1 << 63, 1 << 62, 1000000} {
			all = append(all, func(r *api.Reading) { r.Least[i] += n })
		}
		all = append(all, func(r *api.Reading) { r.Least[i] = -1 }, func(r *api.Reading) { r.Least[i] /= 2 })
	}
	for i := range r.Runs {
		for _, n := range []int{-2, -1, 1, 2, -1 << 63, 1 << 62, 1<<63 - 1} {
			all = append(all,
				func(r *api.Reading) { r.Runs[i].From += n },
				func(r *api.Reading) { r.Runs[i].To += n },
				func(r *api.Reading) { r.Runs[i].Kind += n },
				func(r *api.Reading) { r.Runs[i].Cost += n },
			)
		}
		all = append(all,
			func(r *api.Reading) { r.Runs = slices.Delete(r.Runs, i, i+1) },
			func(r *api.Reading) { r.Runs = slices.Insert(r.Runs, i, r.Runs[i]) },
			func(r *api.Reading) { r.Runs[i].From, r.Runs[i].To = r.Runs[i].To, r.Runs[i].From },
		)
	}
	return all
}
