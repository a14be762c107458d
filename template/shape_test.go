package template_test

import (
	"testing"

	"slatewall/api"
	"slatewall/template"
)

// wantShape checks what Shape says; the zero shape is wanted with ErrTemplate.
func wantShape(t *testing.T, l []api.Stroke, kind int, want api.Shape) {
	t.Helper()
	wantErrno := api.OK
	if want == (api.Shape{}) {
		wantErrno = api.ErrTemplate
	}
	if s, e := template.Shape(l, kind); e != wantErrno || s != want {
		t.Errorf("Shape(%.300v, %d) = %v, %d; want %v", l, kind, s, e, want)
	}
}

// P8.1: shapes by hand.
func TestShape(t *testing.T) {
	head := of(2, 1300, 300, 1500, 500, 1300, 700)
	arrow, around := []api.Stroke{shaft(), head}, api.Rect{X: 500, Y: 300, W: 1000, H: 400}
	wantShape(t, arrow, api.SArrow, api.Shape{Code: 2001, Kind: 3, Rect: around, From: at(500, 500), To: at(1500, 500)})
	wantShape(t, arrow, api.SLetter, api.Shape{Code: 2001, Kind: 4, Rect: around, Word: "T"})
	wantShape(t, arrow, api.SMark, api.Shape{Code: 2001, Kind: 5, Rect: around})
	// The first stroke is the shaft, whatever it looks like.
	wrong := []api.Stroke{head, shaft()}
	wantShape(t, wrong, api.SArrow, api.Shape{Code: 2002, Kind: 3, Rect: around, From: at(1300, 300), To: at(1300, 700)})
	wantShape(t, wrong, api.SMark, api.Shape{Code: 2002, Kind: 5, Rect: around})

	box := []api.Stroke{example()}
	size := api.Rect{X: 100, Y: 100, W: 800, H: 400}
	wantShape(t, box, api.SLine, api.Shape{Code: 2007, Kind: 1, Rect: size, From: at(100, 100), To: at(100, 110)})
	wantShape(t, box, api.SBox, api.Shape{Code: 2007, Kind: 2, Rect: size})
	wantShape(t, box, api.SLetter, api.Shape{Code: 2007, Kind: 4, Rect: size, Word: "N"})
	wantShape(t, box, api.SMark, api.Shape{Code: 2007, Kind: 5, Rect: size})

	dot := []api.Stroke{of(9, 0, 4095)}
	wantShape(t, dot, api.SLine, api.Shape{Code: 2009, Kind: 1, Rect: api.Rect{Y: 4095}, From: at(0, 4095), To: at(0, 4095)})
	wantShape(t, dot, api.SLetter, api.Shape{Code: 2009, Kind: 4, Rect: api.Rect{Y: 4095}, Word: "I"})
	// The rectangle has the dots that Thin leaves out, too; the person and the number make the code.
	bent := of(999, 100, 100, 300, 139, 500, 100)
	bent.Person = 39
	wantShape(t, []api.Stroke{bent}, api.SBox, api.Shape{Code: 39999, Kind: 2, Rect: api.Rect{X: 100, Y: 100, W: 400, H: 39}})
	first := of(1, 0, 0, 4095, 0)
	first.Person = 0
	wantShape(t, []api.Stroke{first, of(1, 4095, 4095)}, api.SMark, api.Shape{Code: 1, Kind: 5, Rect: api.Rect{W: 4095, H: 4095}})
}

// P8.1: a line or a box is made of one stroke, and an arrow of two; there are no other kinds.
func TestShapeOfSoMany(t *testing.T) {
	wantShape(t, []api.Stroke{shaft()}, api.SArrow, api.Shape{})
	two := []api.Stroke{shaft(), of(2, 1300, 300, 1500, 500, 1300, 700)}
	wantShape(t, two, api.SLine, api.Shape{})
	wantShape(t, two, api.SBox, api.Shape{})
	for _, kind := range []int{0, 6, 7, -1, -5, 1 << 62, -1 << 63, 1<<63 - 1} {
		wantShape(t, two[:1], kind, api.Shape{})
		wantShape(t, two, kind, api.Shape{})
	}
}

// P8.1: the letter is the first one of those that cost the least.
func TestShapeWords(t *testing.T) {
	for _, x := range []struct{ steps, want string }{
		{"2", "I"}, {"20", "L"}, {"6172", "M"}, {"616", "N"}, {"17", "V"}, {"030", "Z"},
		// Drawn badly; and as far from L as from V, or from I as from others.
		{"617", "N"}, {"172", "M"}, {"601", "N"}, {"041", "Z"}, {"26", "L"}, {"27", "L"}, {"10", "L"}, {"6", "I"}, {"5", "I"},
	} {
		look := api.Feature{Steps: steps(x.steps)}
		word, _ := plainLetter([]api.Feature{look})
		l := []api.Stroke{through(1, way(at(2000, 2000), look.Steps, func() int { return 300 }))}
		s, e := template.Shape(l, api.SLetter)
		if e != api.OK || s.Word != x.want || word != x.want {
			t.Errorf("%s is read as %s, %d; want %s", x.steps, s.Word, e, x.want)
		}
	}
	for _, x := range []struct{ first, second, want string }{{"0", "2", "T"}, {"1", "3", "X"}, {"1", "2", "T"}, {"0", "3", "T"}, {"2", "3", "X"}, {"3", "1", "T"}, {"2", "4", "X"}} {
		first := through(1, way(at(2000, 2000), steps(x.first), func() int { return 300 }))
		second := through(2, way(at(2100, 1900), steps(x.second), func() int { return 300 }))
		if s, e := template.Shape([]api.Stroke{first, second}, api.SLetter); e != api.OK || s.Word != x.want {
			t.Errorf("%s and %s are read as %s, %d; want %s", x.first, x.second, s.Word, e, x.want)
		}
	}
}

// plainShape is what readable strokes are read as, by the least and the greatest of all X and Y.
func plainShape(l []api.Stroke, kind int) api.Shape {
	if len(l) == 1 && kind == 3 || len(l) == 2 && (kind == 1 || kind == 2) {
		return api.Shape{}
	}
	low, high := at(5000, 5000), at(-1, -1)
	var looks []api.Feature
	for _, s := range l {
		looks = append(looks, plainFeature(s))
		for _, p := range places(s) {
			low, high = at(min(low.X, p.X), min(low.Y, p.Y)), at(max(high.X, p.X), max(high.Y, p.Y))
		}
	}
	want := api.Shape{Code: 1000*l[0].Person + l[0].Number, Kind: kind}
	want.Rect = api.Rect{X: low.X, Y: low.Y, W: high.X - low.X, H: high.Y - low.Y}
	if kind == 1 || kind == 3 {
		want.From, want.To = looks[0].Places[0], looks[0].Places[len(looks[0].Places)-1]
	}
	if kind == 4 {
		want.Word, _ = plainLetter(looks)
	}
	return want
}

// P8.1: the shapes as which any strokes are read.
func TestShapeAny(t *testing.T) {
	r := source()
	words, ties := map[string]int{}, 0
	for range 4000 {
		l := anyReadable(r)
		for kind := 1; kind <= 5; kind++ {
			wantShape(t, l, kind, plainShape(l, kind))
		}
		s, _ := template.Shape(l, api.SLetter)
		words[s.Word]++
		if len(l) == 1 && costsAsLater(l[0], s.Word) {
			ties++
		}
	}
	for _, w := range template.Letters() {
		if words[w] < 50 {
			t.Errorf("only %d are read as %s", words[w], w)
		}
	}
	if ties < 100 {
		t.Errorf("only %d are as near to a later letter", ties)
	}
}

// costsAsLater says whether a stroke is as near to a letter as to one that comes later.
func costsAsLater(s api.Stroke, word string) bool {
	f := plainFeature(s)
	for w, text := range oneTexts {
		if w > word && plainFar(f.Steps, steps(text)) == plainFar(f.Steps, steps(oneTexts[word])) {
			return true
		}
	}
	return false
}
