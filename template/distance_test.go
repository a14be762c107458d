package template_test

import (
	"slices"
	"testing"

	"slatewall/template"
)

// far checks what Far says of two lists, both ways.
func far(t *testing.T, a, b []int, want int) {
	t.Helper()
	if n, m := template.Far(a, b), template.Far(b, a); n != want || m != want {
		t.Errorf("Far(%v, %v) = %d, and %d the other way; want %d", a, b, n, m, want)
	}
}

// P8.1: distances by hand.
func TestFar(t *testing.T) {
	for _, x := range []struct {
		a, b string
		want int
	}{
		{"02", "124", 4},
		{"", "", 0}, {"0", "", 3}, {"7", "", 3}, {"01234567", "", 24},
		{"0", "0", 0}, {"0", "1", 1}, {"0", "2", 2}, {"0", "3", 3}, {"0", "4", 4}, {"0", "5", 3}, {"0", "6", 2}, {"0", "7", 1},
		{"5", "2", 3}, {"1", "6", 3}, {"7", "3", 4}, {"6", "1", 3},
		// To leave one out and to add another one is dearer than to exchange them, unless others fit.
		{"04", "40", 6}, {"044", "440", 6}, {"0404", "4040", 6}, {"0123", "1230", 6}, {"012", "120", 4}, {"0246", "2460", 6}, {"0246", "0642", 8},
		{"0000", "00", 6}, {"0404", "00", 6}, {"0123", "03", 6}, {"222", "12223", 6}, {"20", "2", 3}, {"6172", "616", 4}, {"0246", "616", 6},
	} {
		far(t, steps(x.a), steps(x.b), x.want)
	}
}

// P8.1: Far is the least sum, over whatever lists the one may become on its way to the other one.
func TestFarSmall(t *testing.T) {
	lists, cheap := [][]int{nil}, map[string][]string{}
	for i := 0; len(lists[i]) < 4; i++ {
		for d := range 8 {
			lists = append(lists, append(slices.Clone(lists[i]), d))
		}
	}
	for _, l := range lists {
		cheap[name(l)] = others(l)
	}
	for _, l := range lists {
		if len(l) > 2 || len(l) > 0 && l[0] > 1 {
			continue
		}
		least := reached(l, cheap)
		for _, other := range lists {
			if len(other) <= 3 {
				far(t, l, other, least[name(other)])
			}
		}
	}
}

// name is a list as a text.
func name(l []int) string {
	var text []byte
	for _, d := range l {
		text = append(text, byte('0'+d))
	}
	return string(text)
}

// others are the lists of at most four directions that a list can become at once: with what it costs in front.
func others(l []int) []string {
	var all []string
	for i := 0; i <= len(l); i++ {
		for d := range 8 {
			if len(l) < 4 {
				all = append(all, "3"+name(slices.Insert(slices.Clone(l), i, d)))
			}
			if i < len(l) {
				other := slices.Clone(l)
				other[i] = d
				all = append(all, name([]int{plainTurn(l[i], d)})+name(other))
			}
		}
		if i < len(l) {
			all = append(all, "3"+name(slices.Delete(slices.Clone(l), i, i+1)))
		}
	}
	return all
}

// reached is for how little a list can become each other one, found by going from the cheaper ones on to dearer ones.
func reached(l []int, cheap map[string][]string) map[string]int {
	least, waiting := map[string]int{}, map[int][]string{0: {name(l)}}
	for cost := 0; len(waiting) > 0; cost++ {
		for len(waiting[cost]) > 0 {
			now := waiting[cost]
			delete(waiting, cost)
			for _, text := range now {
				if _, ok := least[text]; ok {
					continue
				}
				least[text] = cost
				for _, other := range cheap[text] {
					if _, ok := least[other[1:]]; !ok {
						more := cost + int(other[0]-'0')
						waiting[more] = append(waiting[more], other[1:])
					}
				}
			}
		}
		delete(waiting, cost)
	}
	return least
}

// P8.1: distances of any lists, short and long.
func TestFarAny(t *testing.T) {
	r := source()
	for i := range 2000 {
		most := []int{5, 10, 30}[r.Intn(3)]
		if i%100 == 0 {
			most = 201
		}
		a, b := anySteps(r, r.Intn(most)), anySteps(r, r.Intn(most))
		if r.Intn(2) == 0 {
			b = changed(r, a)
		}
		far(t, a, b, plainFar(a, b))
	}
}

// P8.1: the limits of lists and of directions.
func TestFarLimits(t *testing.T) {
	long, opposite, turned := make([]int, 200), make([]int, 200), make([]int, 200)
	for i := range long {
		opposite[i], turned[i] = 4, 7
	}
	far(t, long, nil, 600)
	far(t, long, long, 0)
	far(t, long, opposite, 800)
	far(t, long, turned, 200)
	far(t, long, turned[:199], 202)
	for _, count := range []int{201, 202, 1000, 100000} {
		l := make([]int, count)
		for _, other := range [][]int{nil, {0}, long, l} {
			far(t, l, other, -1)
		}
	}
	for _, d := range []int{-1, 8, -8, 1 << 62, -1 << 63, 1<<63 - 1} {
		for i := range 200 {
			l := slices.Clone(long)
			l[i] = d
			far(t, l, nil, -1)
			far(t, l[:i+1], []int{3}, -1)
			far(t, l, l, -1)
		}
	}
}

// P8.1: the letters, and that each call returns new ones.
func TestLetters(t *testing.T) {
	want := []string{"I", "L", "M", "N", "T", "V", "X", "Z"}
	l := template.Letters()
	if !slices.Equal(l, want) {
		t.Errorf("Letters = %v", l)
	}
	clear(l[:cap(l)])
	if l = template.Letters(); !slices.Equal(l, want) {
		t.Errorf("Letters = %v, after those of another call were cleared", l)
	}
}
