package reading

import (
	"slatewall/api"
	"slatewall/template"
)

// costOf returns the cost of runs, and whether they are a sequence for the strokes, with their costs.
func (p *plan) costOf(runs []api.Run) (int, bool) {
	sum, end := 0, 0
	for _, r := range runs {
		if r.From != end || !p.isRun(r) {
			return 0, false
		}
		sum, end = sum+r.Cost, r.To
	}
	return sum, end == len(p.strokes)
}

// isRun says whether r, which does not begin beyond the strokes, is a run of them, with its cost.
func (p *plan) isRun(r api.Run) bool {
	if !isTogether(p.strokes, r.From, r.To) {
		return false
	}
	cost, e := template.Cost(p.strokes[r.From:r.To], r.Kind)
	return e == api.OK && cost == r.Cost
}

// isBelow says whether least has a number for each index, none of which is greater than what the cheapest runs from there on lead to.
// Going from behind shows that no sequence costs less than these numbers, whoever has found them.
func (p *plan) isBelow(least []int) bool {
	from := len(p.strokes)
	if len(least) != from+1 || least[from] != 0 {
		return false
	}
numbers:
	for from > 0 {
		n := least[from-1]
		if !isFrom(n, 0, api.MaxTime) {
			break numbers
		}
		for r := range p.runs(from - 1) {
			if n > r.Cost+least[r.To] {
				break numbers
			}
		}
		from--
	}
	return from == 0
}
