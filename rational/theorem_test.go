package rational_test

import (
	"math/big"
	"math/rand"
	"strconv"
	"testing"

	"slatewall/api"
	"slatewall/rational"
)

// P4.2: results are valid fractions; one that comes with an error is none.
func TestResultsAreValid(t *testing.T) {
	r := source()
	wantValid := func(call string, x outcome) {
		t.Helper()
		if x.e == api.OK && !plainValid(x.r) || x.e != api.OK && x.r != (api.Ratio{}) {
			t.Errorf("%s = %s, %d", call, text(x.r), x.e)
		}
	}
	for range 1500 {
		digits := 1 + r.Intn(120)
		a, b := anyFraction(r, digits), anyFraction(r, digits)
		for _, o := range operators() {
			wantValid(called(o.name, a, b), got(o.call(a, b)))
		}
		places := r.Intn(31)
		wantValid("Down of "+text(a), got(rational.Down(a, places)))
		wantValid("Up of "+text(a), got(rational.Up(a, places)))
		wantValid("Make of "+text(a)+" turned over", got(rational.Make(a.Den, a.Num)))
		wantValid("Of numbers", got(rational.Of(int(r.Uint64()), int(r.Uint64())>>r.Intn(64))))
		wantValid("Parse of "+text(a), got(rational.Parse(rational.Print(a))))
	}
}

// P4.2: two valid fractions have the same value exactly if they are equal, and exactly if Print returns the same.
func TestSameValue(t *testing.T) {
	for num := -6; num <= 6; num++ {
		for den := -6; den <= 6; den++ {
			for otherNum := -6; otherNum <= 6; otherNum++ {
				for otherDen := -6; otherDen <= 6; otherDen++ {
					if den == 0 || otherDen == 0 {
						continue
					}
					a, _ := rational.Of(num, den)
					b, _ := rational.Of(otherNum, otherDen)
					same := num*otherDen == otherNum*den
					if (a == b) != same || (rational.Print(a) == rational.Print(b)) != same || (rational.Compare(a, b) == 0) != same {
						t.Errorf("%d/%d is %s, %d/%d is %s", num, den, text(a), otherNum, otherDen, text(b))
					}
				}
			}
		}
	}
	all := special()
	for _, a := range all {
		for _, b := range all {
			same := value(a).Cmp(value(b)) == 0
			if (a == b) != same || (rational.Print(a) == rational.Print(b)) != same {
				t.Errorf("%s and %s", text(a), text(b))
			}
		}
	}
}

// A chain goes on with the result of one operation after the other, as long as nothing is too large.
type chain struct{ large bool }

// do is the result of an operation, or anything if the chain has ended.
func (c *chain) do(r api.Ratio, e api.Errno) api.Ratio {
	c.large = c.large || e != api.OK
	return r
}

// wantField checks the laws of a field for three fractions, and returns how many of them it could check.
func wantField(t *testing.T, a, b, c api.Ratio) int {
	t.Helper()
	checked := 0
	same := func(law string, both func(*chain) (api.Ratio, api.Ratio)) {
		t.Helper()
		var k chain
		x, y := both(&k)
		if k.large {
			return
		}
		checked++
		if x != y {
			t.Errorf("%s, %s and %s: %s and %s: %s", text(a), text(b), text(c), text(x), text(y), law)
		}
	}
	add, sub, mul, div := rational.Add, rational.Sub, rational.Mul, rational.Div
	same("a + b = b + a", func(k *chain) (api.Ratio, api.Ratio) { return k.do(add(a, b)), k.do(add(b, a)) })
	same("a * b = b * a", func(k *chain) (api.Ratio, api.Ratio) { return k.do(mul(a, b)), k.do(mul(b, a)) })
	same("(a + b) + c = a + (b + c)", func(k *chain) (api.Ratio, api.Ratio) {
		return k.do(add(k.do(add(a, b)), c)), k.do(add(a, k.do(add(b, c))))
	})
	same("(a * b) * c = a * (b * c)", func(k *chain) (api.Ratio, api.Ratio) {
		return k.do(mul(k.do(mul(a, b)), c)), k.do(mul(a, k.do(mul(b, c))))
	})
	same("a * (b + c) = a * b + a * c", func(k *chain) (api.Ratio, api.Ratio) {
		return k.do(mul(a, k.do(add(b, c)))), k.do(add(k.do(mul(a, b)), k.do(mul(a, c))))
	})
	same("(a + b) - b = a", func(k *chain) (api.Ratio, api.Ratio) { return k.do(sub(k.do(add(a, b)), b)), a })
	same("(a - b) + b = a", func(k *chain) (api.Ratio, api.Ratio) { return k.do(add(k.do(sub(a, b)), b)), a })
	if b.Num != "0" {
		same("(a * b) / b = a", func(k *chain) (api.Ratio, api.Ratio) { return k.do(div(k.do(mul(a, b)), b)), a })
		same("(a / b) * b = a", func(k *chain) (api.Ratio, api.Ratio) { return k.do(mul(k.do(div(a, b)), b)), a })
	}
	return checked
}

// P4.3: of small fractions, where nothing is too large.
func TestFieldSmall(t *testing.T) {
	all := smallFractions(3, 4)
	for _, a := range all {
		for _, b := range all {
			for _, c := range all {
				if n := wantField(t, a, b, c); n != 9 && (b.Num != "0" || n != 7) {
					t.Errorf("%s, %s and %s: only %d laws", text(a), text(b), text(c), n)
				}
			}
		}
	}
}

// P4.3: of fractions of many digits, where some operations are too large.
func TestFieldAny(t *testing.T) {
	r, checked := source(), 0
	for _, digits := range []int{10, 30, 60, 100} {
		for range 300 {
			checked += wantField(t, anyFraction(r, digits), anyFraction(r, digits), anyFraction(r, digits))
		}
	}
	if checked < 7000 {
		t.Errorf("only %d laws were checked", checked)
	}
}

// wantOrder checks the order of two fractions, and of what is made of both.
func wantOrder(t *testing.T, a, b, c api.Ratio) {
	t.Helper()
	order := rational.Compare(a, b)
	if order != value(a).Cmp(value(b)) || rational.Compare(b, a) != -order || (order == 0) != (a == b) {
		t.Errorf("%s = %d, and turned around %d", called("Compare", a, b), order, rational.Compare(b, a))
	}
	if x, e := rational.Sub(a, b); e == api.OK && rational.Compare(x, of("0")) != order {
		t.Errorf("%s = %d, and the difference is %s", called("Compare", a, b), order, text(x))
	}
	var k chain
	if x, y := k.do(rational.Add(a, c)), k.do(rational.Add(b, c)); !k.large && rational.Compare(x, y) != order {
		t.Errorf("%s = %d, and with %s added %d", called("Compare", a, b), order, text(c), rational.Compare(x, y))
	}
	if rational.Compare(c, of("0")) <= 0 {
		return
	}
	k = chain{}
	if x, y := k.do(rational.Mul(a, c)), k.do(rational.Mul(b, c)); !k.large && rational.Compare(x, y) != order {
		t.Errorf("%s = %d, and times %s %d", called("Compare", a, b), order, text(c), rational.Compare(x, y))
	}
}

// P4.4: Compare is a total order of small fractions, which adding and multiplying keep.
func TestOrderSmall(t *testing.T) {
	all := smallFractions(3, 4)
	for _, a := range all {
		for _, b := range all {
			for _, c := range all {
				wantOrder(t, a, b, c)
				if rational.Compare(a, b) <= 0 && rational.Compare(b, c) <= 0 && rational.Compare(a, c) > 0 {
					t.Errorf("%s, %s and %s go in a circle", text(a), text(b), text(c))
				}
			}
		}
	}
}

// near is a fraction that differs from another one by little, or not at all.
func near(r *rand.Rand, a api.Ratio) api.Ratio {
	difference := new(big.Rat).SetFrac(big.NewInt(int64(r.Intn(3)-1)), power(r.Intn(60)))
	b := ratio(difference.Add(difference, value(a)))
	if !plainValid(b) {
		return a
	}
	return b
}

// P4.4: the same of fractions of many digits, which are far from or near to each other.
func TestOrderAny(t *testing.T) {
	r := source()
	all := special()
	for range 1500 {
		a, c := anyFraction(r, 1+r.Intn(200)), anyFraction(r, 1+r.Intn(40))
		for _, b := range []api.Ratio{anyFraction(r, 1+r.Intn(200)), near(r, a), all[r.Intn(len(all))]} {
			wantOrder(t, a, b, c)
			if rational.Compare(a, b) <= 0 && rational.Compare(b, c) <= 0 && rational.Compare(a, c) > 0 {
				t.Errorf("%s, %s and %s go in a circle", text(a), text(b), text(c))
			}
		}
	}
}

// P4.5: Down and Up are multiples of 1 / t around the value, and rounding again changes nothing.
func TestRounding(t *testing.T) {
	r := source()
	all := append(special(), smallFractions(30, 9)...)
	for range 1500 {
		all = append(all, anyFraction(r, 1+r.Intn(200)))
	}
	checked := 0
	for _, x := range all {
		for _, places := range []int{0, 1 + r.Intn(29), 30} {
			if wantAround(t, x, places) {
				checked++
			}
		}
	}
	if checked < len(all) {
		t.Errorf("only %d of %d were not too large", checked, 3*len(all))
	}
}

// wantAround checks what Down and Up of one fraction say, and says whether they are not too large.
func wantAround(t *testing.T, r api.Ratio, places int) bool {
	t.Helper()
	call := text(r) + " to " + strconv.Itoa(places) + " places"
	down, e := rational.Down(r, places)
	up, f := rational.Up(r, places)
	wantMirrored(t, r, places)
	if e != f {
		t.Errorf("%s: %d and %d", call, e, f)
	}
	if e != api.OK || f != api.OK {
		return false
	}
	unit := new(big.Rat).SetInt(power(places))
	units := func(x api.Ratio) *big.Rat { return new(big.Rat).Mul(value(x), unit) }
	below, above, exactly := units(down), units(up), units(r)
	if !below.IsInt() || !above.IsInt() {
		t.Errorf("%s: %s and %s are no multiples", call, text(down), text(up))
	}
	if rational.Compare(down, r) > 0 || rational.Compare(r, up) > 0 {
		t.Errorf("%s: not between %s and %s", call, text(down), text(up))
	}
	apart := big.NewRat(1, 1)
	if exactly.IsInt() {
		apart.SetInt64(0)
	}
	if apart.Cmp(new(big.Rat).Sub(above, below)) != 0 {
		t.Errorf("%s: %s and %s", call, text(down), text(up))
	}
	for _, x := range []api.Ratio{down, up} {
		for _, again := range []func(api.Ratio, int) (api.Ratio, api.Errno){rational.Down, rational.Up} {
			if y, e := again(x, places); e == api.OK && y != x {
				t.Errorf("%s: %s is rounded to %s", call, text(x), text(y))
			}
		}
	}
	return true
}

// wantMirrored checks that Up is minus Down of minus a fraction, or both are too large.
func wantMirrored(t *testing.T, r api.Ratio, places int) {
	t.Helper()
	minus := ratio(new(big.Rat).Neg(value(r)))
	up, e := rational.Up(r, places)
	down, f := rational.Down(minus, places)
	if e != f || e == api.OK && value(up).Cmp(new(big.Rat).Neg(value(down))) != 0 {
		t.Errorf("%s to %d places: up %s, %d, and minus it down %s, %d", text(r), places, text(up), e, text(down), f)
	}
}

// P4.6: Parse of what Print returns is the fraction.
func TestPrintAndParse(t *testing.T) {
	r := source()
	all := append(special(), smallFractions(40, 12)...)
	for range 2000 {
		all = append(all, anyFraction(r, 1+r.Intn(200)))
	}
	for _, x := range all {
		s := rational.Print(x)
		want(t, "Parse("+s+")", got(rational.Parse(s)), outcome{r: x})
	}
}

// P4.6: Print of what Parse returns is the text, of all short texts that it takes.
func TestParseAndPrint(t *testing.T) {
	taken := 0
	for _, s := range texts("-/012346+", 5) {
		x, e := rational.Parse(s)
		if e != api.OK {
			continue
		}
		taken++
		if rational.Print(x) != s || !rational.Valid(x) {
			t.Errorf("Parse(%q) = %s, and back %q", s, text(x), rational.Print(x))
		}
	}
	if taken == 0 {
		t.Error("Parse takes no text")
	}
}
