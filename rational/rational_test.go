package rational_test

import (
	"math"
	"math/big"
	"strconv"
	"strings"
	"testing"

	"slatewall/api"
	"slatewall/rational"
)

// ok is what a call returns whose result is the fraction of a text.
func ok(s string) outcome { return outcome{r: of(s)} }

// P4.1: the chapter's examples.
func TestExamples(t *testing.T) {
	want(t, "Of(6, -4)", got(rational.Of(6, -4)), outcome{r: api.Ratio{Num: "-3", Den: "2"}})
	want(t, "Of(0, -5)", got(rational.Of(0, -5)), outcome{r: api.Ratio{Num: "0", Den: "1"}})
	want(t, "Of(1, 0)", got(rational.Of(1, 0)), refused)
	want(t, "1/2 + 1/3", got(rational.Add(of("1/2"), of("1/3"))), ok("5/6"))
	want(t, "1/2 - 1/2", got(rational.Sub(of("1/2"), of("1/2"))), ok("0"))
	want(t, "-2/3 * 3/4", got(rational.Mul(of("-2/3"), of("3/4"))), ok("-1/2"))
	want(t, "1/2 / -1/4", got(rational.Div(of("1/2"), of("-1/4"))), ok("-2"))
	want(t, "1 / 0", got(rational.Div(of("1"), of("0"))), refused)
	if x, y := rational.Compare(of("1/3"), of("33333/100000")), rational.Compare(of("-1/2"), of("-1/3")); x != 1 || y != -1 {
		t.Errorf("Compare: %d, %d", x, y)
	}
	want(t, "Down(1/3, 2)", got(rational.Down(of("1/3"), 2)), ok("33/100"))
	want(t, "Up(1/3, 2)", got(rational.Up(of("1/3"), 2)), ok("17/50"))
	want(t, "Down(-1/3, 2)", got(rational.Down(of("-1/3"), 2)), ok("-17/50"))
	want(t, "Up(7, 3)", got(rational.Up(of("7"), 3)), ok("7"))
	want(t, "Parse(-3/2)", got(rational.Parse("-3/2")), outcome{r: api.Ratio{Num: "-3", Den: "2"}})
	for _, s := range []string{"3/-2", "6/4", "3/1", "+3"} {
		want(t, "Parse("+s+")", got(rational.Parse(s)), refused)
	}
	large := of(ten(150))
	want(t, "the square of 10 to the power of 150", got(rational.Mul(large, large)), refused)
}

// P4.1: Valid of fractions of short strings, one by one.
func TestValidShort(t *testing.T) {
	parts := texts("-+0123469/ ", 2)
	parts = append(parts, "-12", "-10", "10", "100", "12", "15", "-15")
	for _, num := range parts {
		for _, den := range parts {
			r := api.Ratio{Num: num, Den: den}
			if valid := rational.Valid(r); valid != plainValid(r) {
				t.Errorf("Valid(%s) = %t", text(r), valid)
			}
		}
	}
}

// texts are all texts of at most n of these signs.
func texts(signs string, n int) []string {
	all := []string{""}
	for from := 0; n > 0; n-- {
		to := len(all)
		for _, s := range all[from:to] {
			for _, sign := range signs {
				all = append(all, s+string(sign))
			}
		}
		from = to
	}
	return all
}

// P4.1: Valid of fractions that are valid, and of those that are not.
func TestValid(t *testing.T) {
	r := source()
	for _, x := range special() {
		if !rational.Valid(x) {
			t.Errorf("%s is not valid", text(x))
		}
	}
	for _, x := range invalid() {
		if rational.Valid(x) || plainValid(x) {
			t.Errorf("%.500s is valid", text(x))
		}
	}
	for range 2000 {
		x := anyFraction(r, 200)
		if !rational.Valid(x) {
			t.Errorf("%s is not valid", text(x))
		}
		// The same value in other terms is no valid fraction.
		factor := big.NewInt([]int64{2, 3, 5, 9999, 10000, -1}[r.Intn(6)])
		x = api.Ratio{Num: product(plainInteger(x.Num), factor).String(), Den: product(plainInteger(x.Den), factor).String()}
		if rational.Valid(x) {
			t.Errorf("%s is valid", text(x))
		}
	}
}

// made is what Make returns for two strings.
func made(num string, den string) outcome {
	n, d := plainInteger(num), plainInteger(den)
	if n == nil || d == nil {
		return refused
	}
	return exact{n, d}.outcome()
}

// P4.1: Make of integers of few and many digits, with and without a common divisor.
func TestMake(t *testing.T) {
	integers := []string{"0", ten(199), nines(200), "-" + ten(199), "-" + nines(200), shifted(nines(200), -1), nines(100), ten(100), "9223372036854775808"}
	for n := -12; n <= 12; n++ {
		integers = append(integers, strconv.Itoa(n), strconv.Itoa(n*9999), strconv.Itoa(n*360360))
	}
	for _, num := range integers {
		for _, den := range integers {
			want(t, "Make("+num+", "+den+")", got(rational.Make(num, den)), made(num, den))
		}
	}
	r := source()
	for range 2000 {
		common := new(big.Int).Rand(r, power(1+r.Intn(60)))
		x := anyFraction(r, 140)
		num, den := product(plainInteger(x.Num), common).String(), product(plainInteger(x.Den), common).String()
		want(t, "Make("+num+", "+den+")", got(rational.Make(num, den)), made(num, den))
		want(t, "Make("+den+", "+num+")", got(rational.Make(den, num)), made(den, num))
	}
}

// P4.1: Make of strings that are no valid integers, and of 0 as a denominator.
func TestMakeRefuses(t *testing.T) {
	for _, s := range notIntegers() {
		for _, good := range []string{"0", "1", "-1", "6", nines(200)} {
			want(t, "Make("+good+", "+strconv.Quote(s)+")", got(rational.Make(good, s)), refused)
			want(t, "Make("+strconv.Quote(s)+", "+good+")", got(rational.Make(s, good)), refused)
		}
		want(t, "Make of twice "+strconv.Quote(s), got(rational.Make(s, s)), refused)
	}
	for _, num := range []string{"0", "1", "-1", nines(200)} {
		want(t, "Make("+num+", 0)", got(rational.Make(num, "0")), refused)
	}
}

// P4.1: Of all small numbers, and of numbers at the ends of ints.
func TestOf(t *testing.T) {
	numbers := []int{math.MinInt, math.MinInt + 1, math.MaxInt, math.MaxInt - 1, math.MinInt / 2, 1 << 62, 1<<62 - 1, math.MaxInt32, math.MinInt32, 1000000}
	for n := -20; n <= 20; n++ {
		numbers = append(numbers, n)
	}
	for _, num := range numbers {
		for _, den := range numbers {
			want(t, "Of("+strconv.Itoa(num)+", "+strconv.Itoa(den)+")", got(rational.Of(num, den)), made(strconv.Itoa(num), strconv.Itoa(den)))
		}
	}
}

// P4.1: Add, Sub, Mul, Div and Compare of all pairs of small fractions.
func TestPairsSmall(t *testing.T) {
	all := smallFractions(7, 7)
	for _, a := range all {
		for _, b := range all {
			wantPair(t, a, b)
		}
	}
}

// P4.1: the same of fractions near to what may make a difference.
func TestPairsSpecial(t *testing.T) {
	all := special()
	for i, a := range all {
		for k, b := range all {
			// A quarter of the pairs has each fraction many times, on both sides.
			if (i+k)%4 == 0 || i == k {
				wantPair(t, a, b)
			}
		}
	}
}

// P4.1: the same of fractions of any number of digits, where about half of the operations are too large.
func TestPairsAny(t *testing.T) {
	r := source()
	for _, digits := range []int{3, 9, 40, 100, 105, 200} {
		for range 500 {
			wantPair(t, anyFraction(r, digits), anyFraction(r, digits))
		}
	}
}

// P4.1: each integer that an operation is made up of can make it too large alone. Beside each such pair is one that just is not too large.
func TestTooLarge(t *testing.T) {
	for _, x := range []struct {
		name, a, b string
		large      bool
	}{
		// The products of one numerator and the other denominator.
		{"Add", ten(150), "-1/" + ten(50), true}, {"Add", ten(150), "-1/" + ten(49), false},
		{"Add", "-1/" + ten(50), ten(150), true}, {"Add", "-1/" + ten(49), ten(150), false},
		{"Sub", ten(150), "1/" + ten(50), true}, {"Sub", ten(150), "1/" + ten(49), false},
		{"Sub", "1/" + ten(50), ten(150), true}, {"Sub", "1/" + ten(49), ten(150), false},
		// The sum, and the difference.
		{"Add", nines(200), "1", true}, {"Add", shifted(nines(200), -1), "1", false},
		{"Add", "-" + nines(200), "-1", true}, {"Add", "-" + nines(200), "1", false},
		{"Sub", "-" + nines(200), "1", true}, {"Sub", shifted("-"+nines(200), 1), "1", false},
		{"Sub", nines(200), "-1", true}, {"Sub", nines(200), "1", false},
		{"Add", "5" + strings.Repeat("0", 199), "5" + strings.Repeat("0", 199), true}, {"Add", "5" + strings.Repeat("0", 199), "4" + nines(199), false},
		// The product of the denominators.
		{"Add", "1/" + ten(100), "1/" + shifted(ten(100), 1), true}, {"Add", "1/" + ten(100), "1/" + shifted(ten(99), 1), false},
		{"Sub", "1/" + ten(100), "1/" + shifted(ten(100), 1), true}, {"Sub", "1/" + ten(100), "1/" + shifted(ten(99), 1), false},
		{"Mul", "1/" + ten(100), "1/" + ten(100), true}, {"Mul", "1/" + ten(100), "-1/" + ten(99), false},
		{"Div", "1/" + ten(100), ten(100), true}, {"Div", "1/" + ten(100), "-" + ten(99), false},
		// The product of the numerators.
		{"Mul", ten(100), ten(100), true}, {"Mul", ten(100), "-" + ten(99), false},
		{"Div", ten(100), "1/" + ten(100), true}, {"Div", ten(100), "-1/" + ten(99), false},
	} {
		for _, o := range operators() {
			if o.name == x.name {
				result := got(o.call(of(x.a), of(x.b)))
				if x.large != (result == refused) || !x.large && result.e != api.OK {
					t.Errorf("%s = %s, %d", called(x.name, of(x.a), of(x.b)), text(result.r), result.e)
				}
			}
		}
		wantPair(t, of(x.a), of(x.b))
	}
}

// P4.1: an operation is too large even if its reduced result would not be.
func TestTooLargeBeforeReduced(t *testing.T) {
	upper, lower := shifted(ten(150), 1), ten(150)
	a, b := of(upper+"/"+lower), of(lower+"/"+upper)
	want(t, "a number times what it is divided into 1", got(rational.Mul(a, b)), refused)
	want(t, "a number divided by itself", got(rational.Div(a, a)), refused)
	want(t, "a number less itself", got(rational.Sub(a, a)), refused)
	half := of("1/" + lower)
	want(t, "twice the same", got(rational.Add(half, half)), refused)
	want(t, "Down to an integer", got(rational.Down(of(ten(170)+"/"+nines(170)), 30)), refused)
	want(t, "Up to an integer", got(rational.Up(of(ten(170)+"/"+nines(170)), 30)), refused)
}

// P4.1: Div by 0 is refused, whatever is divided, and 0 divided is 0.
func TestDivZero(t *testing.T) {
	zero := of("0")
	for _, a := range special() {
		want(t, called("Div", a, zero), got(rational.Div(a, zero)), refused)
		if a != zero {
			want(t, called("Div", zero, a), got(rational.Div(zero, a)), outcome{r: zero})
		}
	}
}

// P4.1: all functions of one or two fractions refuse those that are not valid, in each place.
func TestInvalid(t *testing.T) {
	good := []api.Ratio{of("0"), of("1"), of("-3/2"), of(nines(200))}
	for _, bad := range invalid() {
		for _, x := range append(good, bad) {
			for _, o := range operators() {
				want(t, called(o.name, bad, x), got(o.call(bad, x)), refused)
				want(t, called(o.name, x, bad), got(o.call(x, bad)), refused)
			}
			if c, d := rational.Compare(bad, x), rational.Compare(x, bad); c != 0 || d != 0 {
				t.Errorf("%.900s = %d, and turned around %d", called("Compare", bad, x), c, d)
			}
		}
		for _, places := range []int{0, 2, 30} {
			want(t, "Down of "+text(bad), got(rational.Down(bad, places)), refused)
			want(t, "Up of "+text(bad), got(rational.Up(bad, places)), refused)
		}
		if s := rational.Print(bad); s != "" {
			t.Errorf("Print(%.900s) = %q", text(bad), s)
		}
	}
}

// P4.1: Compare of fractions of 200 digits, which differ little or in their last digits.
func TestCompareLong(t *testing.T) {
	ascending := []string{
		"-" + nines(200), "-" + shifted(nines(200), -1), "-" + nines(200) + "/2", "-" + ten(199), "-1",
		"-" + shifted(nines(200), -1) + "/" + nines(200), "-1/" + shifted(nines(200), -1), "-1/" + nines(200), "0", "1/" + nines(200), "1/" + shifted(nines(200), -1), "2/" + nines(200),
		shifted(nines(200), -2) + "/" + shifted(nines(200), -1), shifted(nines(200), -1) + "/" + nines(200), "1", nines(200) + "/" + shifted(nines(200), -1), shifted(nines(200), -1) + "/" + shifted(nines(200), -2),
		ten(199), shifted(ten(199), 1), shifted(nines(200), -1) + "/7", nines(200) + "/7", nines(200) + "/2", shifted(nines(200), -1), nines(200),
	}
	for i, a := range ascending {
		for k, b := range ascending {
			order := 0
			if i < k {
				order = -1
			} else if i > k {
				order = 1
			}
			if c := rational.Compare(of(a), of(b)); c != order {
				t.Errorf("%s = %d", called("Compare", of(a), of(b)), c)
			}
		}
	}
}

// P4.1: Compare of the quotients of Fibonacci numbers, which have the same integers in the most steps.
func TestCompareFibonacci(t *testing.T) {
	numbers := []*big.Int{big.NewInt(1), big.NewInt(1)}
	for !tooLong(numbers[len(numbers)-1]) {
		numbers = append(numbers, new(big.Int).Add(numbers[len(numbers)-1], numbers[len(numbers)-2]))
	}
	numbers = numbers[:len(numbers)-1]
	quotient := func(i int, sign string) api.Ratio {
		return of(sign + numbers[i+1].String() + "/" + numbers[i].String())
	}
	for _, sign := range []string{"", "-"} {
		last := quotient(len(numbers)-2, sign)
		for i := 0; i < len(numbers)-2; i += 1 + i/40 {
			a, b := quotient(i, sign), quotient(i+1, sign)
			for _, x := range [][2]api.Ratio{{a, b}, {b, a}, {a, last}, {last, a}, {a, a}} {
				if c := rational.Compare(x[0], x[1]); c != value(x[0]).Cmp(value(x[1])) {
					t.Errorf("%s = %d", called("Compare", x[0], x[1]), c)
				}
			}
		}
		a := quotient(len(numbers)-3, sign)
		if c := rational.Compare(a, last); c != value(a).Cmp(value(last)) {
			t.Errorf("%s = %d", called("Compare", a, last), c)
		}
	}
}

// P4.1: Down and Up of small fractions, to few places.
func TestRoundSmall(t *testing.T) {
	for _, r := range smallFractions(25, 21) {
		for places := range 5 {
			wantRounded(t, r, places)
		}
	}
}

// P4.1: Down and Up to all numbers of places, and to some that are none.
func TestRoundPlaces(t *testing.T) {
	for _, s := range []string{"0", "1", "-1", "1/3", "-1/3", "7/8", "-7/8", "1/" + ten(30), "-1/" + ten(29), nines(60) + "/7", "-" + nines(30) + "/" + ten(30), "1/" + nines(200), "-1/" + nines(200)} {
		for places := -3; places <= 33; places++ {
			wantRounded(t, of(s), places)
		}
		for _, places := range []int{math.MinInt, math.MinInt32, -1000, 199, 200, 201, 1000, math.MaxInt32, math.MaxInt} {
			want(t, "Down("+s+", "+strconv.Itoa(places)+")", got(rational.Down(of(s), places)), refused)
			want(t, "Up("+s+", "+strconv.Itoa(places)+")", got(rational.Up(of(s), places)), refused)
		}
	}
}

// P4.1: Down and Up are too large from the digit on with which the scaled numerator has 201 digits.
func TestRoundTooLarge(t *testing.T) {
	for _, sign := range []string{"", "-"} {
		// No power of 3 is a divisor of these numerators.
		for _, den := range []string{"1", "3", "729"} {
			for places := 1; places <= 30; places++ {
				fits, large := of(sign+shifted(nines(200-places), -1)+"/"+den), of(sign+shifted(ten(200-places), 1)+"/"+den)
				wantRounded(t, fits, places)
				if _, e := rational.Down(fits, places); e != api.OK {
					t.Errorf("Down(%s, %d): %d", text(fits), places, e)
				}
				if _, e := rational.Up(fits, places); e != api.OK {
					t.Errorf("Up(%s, %d): %d", text(fits), places, e)
				}
				want(t, "Down of "+text(large), got(rational.Down(large, places)), refused)
				want(t, "Up of "+text(large), got(rational.Up(large, places)), refused)
			}
			wantRounded(t, of(sign+nines(200)+"/"+den), 0)
		}
	}
}

// P4.1: Down and Up of fractions of any number of digits, and of multiples of what they round to.
func TestRoundAny(t *testing.T) {
	r := source()
	for _, x := range special() {
		for _, places := range []int{0, 1, 13, 29, 30} {
			wantRounded(t, x, places)
		}
	}
	for range 2000 {
		places := r.Intn(31)
		wantRounded(t, anyFraction(r, 200), places)
		multiple := new(big.Rat).SetFrac(plainInteger(anyFraction(r, 100).Num), power(places))
		wantRounded(t, ratio(multiple), places)
		near := new(big.Rat).Add(multiple, value(small(r.Intn(3)-1, 1+r.Intn(100))))
		wantRounded(t, ratio(near), places)
	}
}

// P4.1: Print of valid fractions.
func TestPrint(t *testing.T) {
	for _, x := range []struct {
		r    api.Ratio
		want string
	}{
		{api.Ratio{Num: "0", Den: "1"}, "0"}, {api.Ratio{Num: "7", Den: "1"}, "7"}, {api.Ratio{Num: "-7", Den: "1"}, "-7"}, {api.Ratio{Num: "1", Den: "2"}, "1/2"}, {api.Ratio{Num: "-3", Den: "2"}, "-3/2"},
		{api.Ratio{Num: "10", Den: "11"}, "10/11"}, {api.Ratio{Num: "1", Den: "10"}, "1/10"}, {api.Ratio{Num: nines(200), Den: ten(199)}, nines(200) + "/" + ten(199)}, {api.Ratio{Num: "-" + nines(200), Den: "1"}, "-" + nines(200)},
	} {
		if s := rational.Print(x.r); s != x.want {
			t.Errorf("Print(%s) = %q", text(x.r), s)
		}
	}
}

// parsed is what Parse returns for a text.
func parsed(s string) outcome {
	num, den, found := strings.Cut(s, "/")
	r := api.Ratio{Num: num, Den: den}
	if !found {
		r.Den = "1"
	}
	if !plainValid(r) || found && r.Den == "1" {
		return refused
	}
	return outcome{r: r}
}

// P4.1: Parse of all short texts of signs that fractions have, and of some that they have not.
func TestParseShort(t *testing.T) {
	for _, s := range texts("-/0126+ ", 5) {
		want(t, "Parse("+strconv.Quote(s)+")", got(rational.Parse(s)), parsed(s))
	}
}

// P4.1: Parse refuses texts that Print does not return.
func TestParseRefuses(t *testing.T) {
	bad := []string{"", "3/1", "-3/1", "0/1", "6/4", "-6/4", "0/2", "3/-2", "-3/-2", "3/0", "0/0", "+3", "+3/2", "3/+2", "3/", "/3", "/", "-/3", "//", "1/2/3", "1//2", "/1/2", "1/2/", "3/02", "03/2", "-0", "-0/3", " 1/2", "1/2 ", "1 /2", "1/ 2", "1\\2", "1:2", "1∕2", "1.5", "0.5", "1 1/2",
		nines(201), nines(201) + "/2", "1/" + nines(201), nines(200) + "/3", "1/" + ten(200), nines(200) + "/" + nines(200), strings.Repeat("1", 70000) + "/2", "1/" + strings.Repeat("1", 70000), strings.Repeat("/", 70000)}
	for _, s := range bad {
		want(t, "Parse("+strconv.Quote(s)+")", got(rational.Parse(s)), refused)
	}
	for _, s := range notIntegers() {
		for _, x := range []string{s + "/7", "7/" + s, "-" + s + "/7"} {
			want(t, "Parse("+strconv.Quote(x)+")", got(rational.Parse(x)), parsed(x))
		}
		want(t, "Parse("+strconv.Quote(s)+")", got(rational.Parse(s)), parsed(s))
	}
}
