package template

import "slatewall/api"

// letter is how a letter is drawn: the directions of each of its strokes.
type letter struct {
	word    string
	strokes [][]int
}

// letters are the templates of letters, in order.
var letters = [...]letter{
	{"I", [][]int{{2}}},
	{"L", [][]int{{2, 0}}},
	{"M", [][]int{{6, 1, 7, 2}}},
	{"N", [][]int{{6, 1, 6}}},
	{"T", [][]int{{0}, {2}}},
	{"V", [][]int{{1, 7}}},
	{"X", [][]int{{1}, {3}}},
	{"Z", [][]int{{0, 3, 0}}},
}

// ring is how a box is drawn: the directions of its sides.
type ring [4]int

// rings are the templates of boxes, one for each direction in which these are drawn.
var rings = [...]ring{{0, 2, 4, 6}, {0, 6, 4, 2}}

// What readings cost, beside distances.
const (
	costOfBend   = 6   // a place too many, or too few
	costOfDot    = 30  // a line of one place
	costOfRound  = 20  // a line that is closed
	costOfOpen   = 25  // a box that is not
	costOfLoose  = 40  // an arrow whose head is not at its end
	costOfLetter = 4   // any letter
	costOfMark   = 45  // each stroke of a mark
	costOfNone   = 500 // a kind that is not made of so many strokes
)

// isMadeOf says whether there is such a kind, and its shapes are made of so many strokes, one or two.
func isMadeOf(kind int, strokes int) bool {
	switch kind {
	case api.SLine, api.SBox:
		return strokes == 1
	case api.SArrow:
		return strokes == 2
	}
	return kind == api.SLetter || kind == api.SMark
}

// costOf returns the cost of reading strokes with these features as a kind that there is.
func costOf(looks []api.Feature, kind int) int {
	if !isMadeOf(kind, len(looks)) {
		return costOfNone
	}
	switch kind {
	case api.SLine:
		return lineCost(looks[0])
	case api.SBox:
		return boxCost(looks[0])
	case api.SArrow:
		return arrowCost(looks[0], looks[1])
	case api.SLetter:
		_, cost := letterOf(looks)
		return cost
	}
	return costOfMark * len(looks)
}

// lineCost returns the cost of reading a stroke as a line.
func lineCost(look api.Feature) int {
	cost := costOfBend * max(0, len(look.Places)-2)
	if len(look.Places) == 1 {
		cost = costOfDot
	}
	if look.Closed {
		cost += costOfRound
	}
	return cost
}

// boxCost returns the cost of reading a stroke as a box.
func boxCost(look api.Feature) int {
	least := -1
	for box := range boxes {
		if far := distance(look.Steps, box[:]); least < 0 || far < least {
			least = far
		}
	}
	if !look.Closed {
		least += costOfOpen
	}
	return least
}

// boxes yields the templates of boxes, drawn from each of their corners.
func boxes(yield func(ring) bool) {
	for _, r := range rings {
		for range len(r) {
			if !yield(r) {
				return
			}
			r = ring{r[1], r[2], r[3], r[0]}
		}
	}
}

// arrowCost returns the cost of reading two strokes as an arrow.
func arrowCost(shaft api.Feature, head api.Feature) int {
	cost := lineCost(shaft) + costOfBend*size(len(head.Places)-3)
	if !isNear(shaft.Places[len(shaft.Places)-1], head.Places[len(head.Places)/2]) {
		cost += costOfLoose
	}
	return cost
}

// letterOf returns the first letter as which it costs the least to read strokes, and this cost.
func letterOf(looks []api.Feature) (string, int) {
	word, least := "", -1
	for _, l := range letters {
		if len(l.strokes) != len(looks) {
			continue
		}
		far := func(i int) int { return distance(looks[i].Steps, l.strokes[i]) }
		cost := costOfLetter + combined(len(looks), far, func(a int, b int) int { return a + b })
		if least < 0 || cost < least {
			word, least = l.word, cost
		}
	}
	return word, least
}
