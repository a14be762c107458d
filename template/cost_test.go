package template_test

import (
	"testing"

	"slatewall/api"
	"slatewall/template"
)

// priced is what readable strokes cost as each kind, from SLine to SMark.
type priced struct {
	l    []api.Stroke
	want [5]int
}

// wantCosts checks Cost, Fits and Cheapest of readable strokes, whatever is behind them in memory.
func wantCosts(t *testing.T, l []api.Stroke, want [6]int) {
	t.Helper()
	if got := costs(t, l); got != want {
		t.Errorf("the costs of %v are %v; want %v", l, got, want)
	}
	best := 1
	for kind := 1; kind <= 5; kind++ {
		if template.Fits(l, kind) != (want[kind] <= 20) {
			t.Errorf("Fits(%v, %d) is not %t, at %d", l, kind, want[kind] <= 20, want[kind])
		}
		if want[kind] < want[best] {
			best = kind
		}
	}
	if kind, n, e := template.Cheapest(l); e != api.OK || kind != best || n != want[best] {
		t.Errorf("Cheapest(%v) = %d, %d, %d; want %d, %d", l, kind, n, e, best, want[best])
	}
}

// one is a stroke alone.
func one(l ...int) []api.Stroke { return []api.Stroke{of(1, l...)} }

// P8.1: what single strokes cost, by hand.
func TestCostOfOne(t *testing.T) {
	for _, x := range []priced{
		{[]api.Stroke{example()}, [5]int{38, 0, 500, 10, 45}},
		// Of one place, of two, of three and of four: each bend is 6 more.
		{one(5, 5), [5]int{30, 37, 500, 7, 45}},
		{one(5, 5, 5, 5), [5]int{0, 34, 500, 6, 45}},
		{one(100, 100, 100, 900), [5]int{0, 34, 500, 4, 45}},
		{one(100, 900, 100, 100), [5]int{0, 34, 500, 8, 45}},
		{one(100, 100, 900, 100, 900, 500), [5]int{6, 31, 500, 7, 45}},
		{one(100, 100, 900, 100, 900, 500, 300, 500), [5]int{12, 28, 500, 9, 45}},
		{one(100, 100, 900, 100, 900, 500, 100, 500), [5]int{12, 28, 500, 9, 45}},
		// Closed and open, by one place: 20 for the line, and 25 for the box.
		{one(100, 100, 900, 100, 900, 500, 100, 500, 220, 220), [5]int{38, 0, 500, 10, 45}},
		{one(100, 100, 900, 100, 900, 500, 100, 500, 221, 220), [5]int{18, 25, 500, 10, 45}},
		{one(100, 100, 900, 100, 900, 500, 100, 221), [5]int{12, 28, 500, 9, 45}},
		{one(100, 100, 900, 100, 900, 500, 100, 220), [5]int{32, 3, 500, 9, 45}},
		// Letters, as they are drawn.
		{one(100, 100, 100, 700, 500, 700), [5]int{6, 31, 500, 4, 45}},
		{one(100, 700, 100, 100, 400, 400, 700, 100, 700, 700), [5]int{18, 31, 500, 4, 45}},
		{one(100, 700, 100, 100, 600, 600, 600, 0), [5]int{12, 31, 500, 4, 45}},
		{one(100, 100, 400, 700, 700, 100), [5]int{6, 31, 500, 6, 45}},
		{one(100, 100, 400, 400, 700, 100), [5]int{6, 33, 500, 4, 45}},
		{one(100, 100, 600, 100, 100, 600, 600, 600), [5]int{12, 31, 500, 4, 45}},
	} {
		wantCosts(t, x.l, [6]int{0, x.want[0], x.want[1], x.want[2], x.want[3], x.want[4]})
	}
}

// shaft is a line to the right that ends at (1500, 500).
func shaft() api.Stroke { return of(1, 500, 500, 1500, 500) }

// P8.1: what two strokes cost, by hand.
func TestCostOfTwo(t *testing.T) {
	head := func(x, y int) api.Stroke { return of(2, x-200, y-200, x, y, x-200, y+200) }
	bent := of(1, 500, 1000, 1000, 1000, 1000, 500, 1500, 500)
	round := of(1, 1500, 500, 1700, 500, 1700, 900, 1500, 500)
	for _, x := range []priced{
		{[]api.Stroke{shaft(), head(1500, 500)}, [5]int{500, 500, 0, 8, 90}},
		// The head at its end, or just not.
		{[]api.Stroke{shaft(), head(1620, 500)}, [5]int{500, 500, 0, 8, 90}},
		{[]api.Stroke{shaft(), head(1621, 500)}, [5]int{500, 500, 40, 8, 90}},
		{[]api.Stroke{shaft(), head(1380, 380)}, [5]int{500, 500, 0, 8, 90}},
		{[]api.Stroke{shaft(), head(1379, 500)}, [5]int{500, 500, 40, 8, 90}},
		{[]api.Stroke{shaft(), head(1500, 379)}, [5]int{500, 500, 40, 8, 90}},
		{[]api.Stroke{shaft(), head(1500, 620)}, [5]int{500, 500, 0, 8, 90}},
		{[]api.Stroke{shaft(), head(1500, 621)}, [5]int{500, 500, 40, 8, 90}},
		{[]api.Stroke{shaft(), head(500, 500)}, [5]int{500, 500, 40, 8, 90}},
		// Heads of one place, of two, of four and of five: the middle one is that of the half, rounded down.
		{[]api.Stroke{shaft(), of(2, 1500, 500)}, [5]int{500, 500, 12, 7, 90}},
		{[]api.Stroke{shaft(), of(2, 1300, 300, 1500, 500)}, [5]int{500, 500, 6, 5, 90}},
		{[]api.Stroke{shaft(), of(2, 1500, 500, 1300, 300)}, [5]int{500, 500, 46, 7, 90}},
		{[]api.Stroke{shaft(), of(2, 1100, 300, 1300, 300, 1500, 500, 1300, 700)}, [5]int{500, 500, 6, 11, 90}},
		{[]api.Stroke{shaft(), of(2, 1300, 300, 1500, 500, 1300, 700, 1100, 700)}, [5]int{500, 500, 46, 11, 90}},
		{[]api.Stroke{shaft(), of(2, 1100, 300, 1300, 300, 1500, 500, 1300, 700, 1100, 700)}, [5]int{500, 500, 12, 14, 90}},
		// A head that is closed costs nothing more; a shaft costs what it does as a line.
		{[]api.Stroke{shaft(), of(2, 1300, 300, 1300, 700, 1500, 500, 1300, 300)}, [5]int{500, 500, 6, 10, 90}},
		{[]api.Stroke{bent, head(1500, 500)}, [5]int{500, 500, 12, 14, 90}},
		{[]api.Stroke{round, head(1500, 500)}, [5]int{500, 500, 32, 14, 90}},
		{[]api.Stroke{of(1, 1500, 500), head(1500, 500)}, [5]int{500, 500, 30, 10, 90}},
		// The one before the other one: only the first one is the shaft, and letters have an order, too.
		{[]api.Stroke{head(1500, 500), shaft()}, [5]int{500, 500, 52, 10, 90}},
		{[]api.Stroke{shaft(), of(2, 1000, 500, 1000, 1500)}, [5]int{500, 500, 46, 4, 90}},
		{[]api.Stroke{of(2, 1000, 500, 1000, 1500), shaft()}, [5]int{500, 500, 46, 8, 90}},
		{[]api.Stroke{of(1, 100, 100, 600, 600), of(2, 600, 100, 100, 600)}, [5]int{500, 500, 46, 4, 90}},
		{[]api.Stroke{of(1, 600, 100, 100, 600), of(2, 100, 100, 600, 600)}, [5]int{500, 500, 46, 8, 90}},
	} {
		wantCosts(t, x.l, [6]int{0, x.want[0], x.want[1], x.want[2], x.want[3], x.want[4]})
	}
}

// P8.1: what any strokes cost, and the least kind of several that cost the least.
func TestCostAny(t *testing.T) {
	r := source()
	best, ties := [6]int{}, map[[2]int]int{}
	for range 8000 {
		l := anyReadable(r)
		want := plainCosts(l)
		wantCosts(t, l, want)
		kind, n, _ := template.Cheapest(l)
		best[kind]++
		for other := kind + 1; other <= 5; other++ {
			if want[other] == n {
				ties[[2]int{kind, other}]++
			}
		}
	}
	for kind := 1; kind <= 5; kind++ {
		if best[kind] < 100 {
			t.Errorf("only %d are read as %d", best[kind], kind)
		}
	}
	for _, kinds := range [][2]int{{1, 4}, {3, 4}, {4, 5}} {
		if ties[kinds] < 5 {
			t.Errorf("only %d cost the same as %v", ties[kinds], kinds)
		}
	}
}

// P8.1: strokes of 200 places cost more than what cannot be read.
func TestCostLong(t *testing.T) {
	long, two := zigzag(1, 200), []api.Stroke{zigzag(1, 200), zigzag(2, 200)}
	for _, l := range [][]api.Stroke{{long}, two, {shaft(), zigzag(2, 200)}, {zigzag(2, 200), shaft()}} {
		want := plainCosts(l)
		wantCosts(t, l, want)
		if want[4] <= 500 || len(l) == 1 && (want[1] != 1188 || want[2] <= 500) {
			t.Errorf("the costs are %v", want)
		}
	}
}
