package reading

import (
	"slatewall/api"
	"slatewall/template"
)

// plan is what the cheapest sequences for valid strokes are made of: from each stroke on, the cheapest run of one and, if there is another stroke, of two; and the least cost of all sequences.
type plan struct {
	strokes []api.Stroke
	cheap   [api.MaxStrokes][api.MaxTogether]api.Run
	least   [api.MaxStrokes + 1]int
}

// planOf returns the plan of valid strokes. It is filled from behind: a cheapest sequence goes on as a cheapest one.
func planOf(l []api.Stroke) *plan {
	p := &plan{strokes: l}
	for behind := range len(l) {
		from := len(l) - 1 - behind
		for i := range p.lengths(from) {
			p.cheap[from][i] = cheapest(l, from, from+i+1)
		}
		p.least[from] = p.through(p.best(from))
	}
	return p
}

// cheapest returns the cheapest run of the one or two strokes from an index up to another one.
func cheapest(l []api.Stroke, from int, to int) api.Run {
	kind, cost, _ := template.Cheapest(l[from:to])
	return api.Run{From: from, To: to, Kind: kind, Cost: cost}
}

// lengths returns how many lengths a run from an index on can have.
func (p *plan) lengths(from int) int { return min(api.MaxTogether, len(p.strokes)-from) }

// runs yields the cheapest run of each length from an index on, the shorter one first.
func (p *plan) runs(from int) func(func(api.Run) bool) {
	return func(yield func(api.Run) bool) {
		for i := range p.lengths(from) {
			if !yield(p.cheap[from][i]) {
				return
			}
		}
	}
}

// through returns the least cost of all sequences that begin with a run.
func (p *plan) through(r api.Run) int { return r.Cost + p.least[r.To] }

// best returns the run with which the reading goes on from an index on: a shorter one, unless a longer one is better.
func (p *plan) best(from int) api.Run {
	best := p.cheap[from][0]
	for r := range p.runs(from) {
		if p.through(r) < p.through(best) {
			best = r
		}
	}
	return best
}

// sequence yields the runs of the reading.
func (p *plan) sequence(yield func(api.Run) bool) {
	for from := 0; from < len(p.strokes); {
		r := p.best(from)
		if !yield(r) {
			return
		}
		from = r.To
	}
}

// next returns the least cost of all sequences but one, or -1 if there is no other one.
func (p *plan) next(sequence []api.Run) int {
	least, before := -1, 0
	for _, r := range sequence {
		// Another sequence has the same runs up to one of them, and another run there.
		for _, other := range p.others(r) {
			if cost := before + p.through(other); least < 0 || cost < least {
				least = cost
			}
		}
		before += r.Cost
	}
	return least
}

// others returns runs that begin where a run does: its strokes read as each other kind, and the cheapest run of the other length. No other run can begin a cheaper sequence.
func (p *plan) others(r api.Run) []api.Run {
	var all []api.Run
	for kind := api.SLine; kind <= api.SMark; kind++ {
		if kind != r.Kind {
			cost, _ := template.Cost(p.strokes[r.From:r.To], kind)
			all = append(all, api.Run{From: r.From, To: r.To, Kind: kind, Cost: cost})
		}
	}
	for other := range p.runs(r.From) {
		if other.To != r.To {
			all = append(all, other)
		}
	}
	return all
}
