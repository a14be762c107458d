package rational_test

import (
	"math"
	"math/big"
	"math/rand"
	"strconv"
	"strings"
	"testing"

	"slatewall/api"
	"slatewall/rational"
)

// This file computes results in another way than the package does: with the library's numbers, from the chapter's definitions.

// source is the same for every run of a test.
func source() *rand.Rand { return rand.New(rand.NewSource(4)) }

// plainInteger is the number of a valid integer, or nil.
func plainInteger(s string) *big.Int {
	n, ok := new(big.Int).SetString(s, 10)
	if !ok || n.String() != s || tooLong(n) {
		return nil
	}
	return n
}

// tooLong says whether a number has more than 200 digits.
func tooLong(n *big.Int) bool { return len(strings.TrimPrefix(n.String(), "-")) > api.MaxDigits }

// plainValid says whether a fraction is valid.
func plainValid(r api.Ratio) bool {
	num, den := plainInteger(r.Num), plainInteger(r.Den)
	if num == nil || den == nil || den.Sign() <= 0 {
		return false
	}
	return new(big.Int).GCD(nil, nil, new(big.Int).Abs(num), den).Cmp(big.NewInt(1)) == 0
}

// value is the number of a valid fraction.
func value(r api.Ratio) *big.Rat {
	if !plainValid(r) {
		panic("no fraction: " + r.Num + "/" + r.Den)
	}
	return new(big.Rat).SetFrac(plainInteger(r.Num), plainInteger(r.Den))
}

// ratio is the fraction of a number.
func ratio(x *big.Rat) api.Ratio { return api.Ratio{Num: x.Num().String(), Den: x.Denom().String()} }

// of is the fraction that a text stands for: two integers with a slash in between, reduced or not, or one alone.
func of(s string) api.Ratio {
	x, ok := new(big.Rat).SetString(s)
	if !ok || !plainValid(ratio(x)) {
		panic("no fraction: " + s)
	}
	return ratio(x)
}

// small is the fraction of two ints, of which den is not 0.
func small(num int, den int) api.Ratio { return ratio(big.NewRat(int64(num), int64(den))) }

// text is how a fraction is written here, valid or not.
func text(r api.Ratio) string { return strconv.Quote(r.Num) + "/" + strconv.Quote(r.Den) }

// outcome is what a call returns.
type outcome struct {
	r api.Ratio
	e api.Errno
}

// got gathers what a call returns.
func got(r api.Ratio, e api.Errno) outcome { return outcome{r, e} }

// refused is what a call returns that has no result.
var refused = outcome{e: api.ErrRational}

// want checks what a call returned.
func want(t *testing.T, call string, got outcome, want outcome) {
	t.Helper()
	if got != want {
		t.Errorf("%.1800s = %.900s, %d; want %.900s, %d", call, text(got.r), got.e, text(want.r), want.e)
	}
}

// exact are the numbers of which an operation is made up, in their order. The last two are those that are reduced.
type exact []*big.Int

// outcome is the fraction of the last two numbers, if none of them all is too long, and the last one is not 0.
func (l exact) outcome() outcome {
	for _, n := range l {
		if tooLong(n) {
			return refused
		}
	}
	num, den := l[len(l)-2], l[len(l)-1]
	if den.Sign() == 0 {
		return refused
	}
	return outcome{r: ratio(new(big.Rat).SetFrac(num, den))}
}

// An operator is a function of two fractions, and what it returns according to its definition.
type operator struct {
	name  string
	call  func(api.Ratio, api.Ratio) (api.Ratio, api.Errno)
	plain func(aNum, aDen, bNum, bDen *big.Int) exact
}

// product of two numbers.
func product(x, y *big.Int) *big.Int { return new(big.Int).Mul(x, y) }

// operators are the four functions of two fractions.
func operators() []operator {
	return []operator{
		{"Add", rational.Add, func(aNum, aDen, bNum, bDen *big.Int) exact {
			x, y := product(aNum, bDen), product(bNum, aDen)
			return exact{x, y, new(big.Int).Add(x, y), product(aDen, bDen)}
		}},
		{"Sub", rational.Sub, func(aNum, aDen, bNum, bDen *big.Int) exact {
			x, y := product(aNum, bDen), product(bNum, aDen)
			return exact{x, y, new(big.Int).Sub(x, y), product(aDen, bDen)}
		}},
		{"Mul", rational.Mul, func(aNum, aDen, bNum, bDen *big.Int) exact {
			return exact{product(aNum, bNum), product(aDen, bDen)}
		}},
		{"Div", rational.Div, func(aNum, aDen, bNum, bDen *big.Int) exact {
			return exact{product(aNum, bDen), product(aDen, bNum)}
		}},
	}
}

// called is how a call with two fractions is written.
func called(name string, a api.Ratio, b api.Ratio) string {
	return name + "(" + text(a) + ", " + text(b) + ")"
}

// wantPair checks all functions of two valid fractions.
func wantPair(t *testing.T, a api.Ratio, b api.Ratio) {
	t.Helper()
	x, y := value(a), value(b)
	for _, o := range operators() {
		want(t, called(o.name, a, b), got(o.call(a, b)), o.plain(x.Num(), x.Denom(), y.Num(), y.Denom()).outcome())
	}
	if order := rational.Compare(a, b); order != x.Cmp(y) {
		t.Errorf("%s = %d; want %d", called("Compare", a, b), order, x.Cmp(y))
	}
}

// power is ten to the power of n.
func power(n int) *big.Int { return new(big.Int).Exp(big.NewInt(10), big.NewInt(int64(n)), nil) }

// wantRounded checks what Down and Up return for a valid fraction.
func wantRounded(t *testing.T, r api.Ratio, places int) {
	t.Helper()
	down, up := refused, refused
	if places >= 0 && places <= api.MaxPlaces {
		x, unit := value(r), power(places)
		scaled := product(x.Num(), unit)
		// Int.Div rounds down for a positive divisor.
		below := new(big.Int).Div(scaled, x.Denom())
		above := new(big.Int).Neg(new(big.Int).Div(new(big.Int).Neg(scaled), x.Denom()))
		down, up = exact{scaled, below, unit}.outcome(), exact{scaled, above, unit}.outcome()
	}
	call := "(" + text(r) + ", " + strconv.Itoa(places) + ")"
	want(t, "Down"+call, got(rational.Down(r, places)), down)
	want(t, "Up"+call, got(rational.Up(r, places)), up)
}

// nines is the integer of n nines.
func nines(n int) string { return strings.Repeat("9", n) }

// ten is the integer that is ten to the power of n.
func ten(n int) string { return power(n).String() }

// shifted is an integer that is n greater than another one.
func shifted(s string, n int64) string {
	return new(big.Int).Add(plainInteger(s), big.NewInt(n)).String()
}

// smallFractions are all fractions of ints up to num and den, each once.
func smallFractions(num int, den int) []api.Ratio {
	var all []api.Ratio
	for d := 1; d <= den; d++ {
		for n := -num; n <= num; n++ {
			if r := small(n, d); r.Den == strconv.Itoa(d) {
				all = append(all, r)
			}
		}
	}
	return all
}

// special are valid fractions near to what may make a difference: of few and of many digits, near to each other, to integers, and to what is too large.
func special() []api.Ratio {
	var all []api.Ratio
	add := func(l ...string) {
		for _, s := range l {
			all = append(all, of(s), of("-"+s))
		}
	}
	all = append(all, of("0"))
	add("1", "2", "3", "7", "9", "10", "1/2", "1/3", "2/3", "3/2", "1/10", "9/10", "10/9", "1/7", "22/7", "33333/100000", "33334/100000")
	for _, n := range []int{1, 30, 66, 99, 100, 101, 150, 169, 170, 171, 198, 199} {
		add(ten(n), "1/"+ten(n), shifted(ten(n), -1), "1/"+shifted(ten(n), 1), shifted(ten(n), 1)+"/"+ten(n), ten(n)+"/"+shifted(ten(n), 1))
	}
	for _, n := range []int{math.MaxInt32, math.MaxInt - 1, math.MaxInt} {
		add(strconv.Itoa(n), "1/"+strconv.Itoa(n), strconv.Itoa(n)+"/2147483648")
	}
	add("9223372036854775808", nines(200), "1/"+nines(200), shifted(nines(200), -1)+"/"+nines(200), nines(200)+"/"+shifted(nines(200), -1))
	add(nines(200)+"/2", "5"+strings.Repeat("0", 199)+"/3", strings.Repeat("1234567890", 20)+"/"+nines(200))
	return all
}

// anyFraction is a valid fraction whose integers have at most so many digits before they are reduced.
func anyFraction(r *rand.Rand, digits int) api.Ratio {
	num := new(big.Int).Rand(r, power(1+r.Intn(digits)))
	den := new(big.Int).Rand(r, power(1+r.Intn(digits)))
	if r.Intn(3) == 0 {
		den.SetInt64(int64(1 + r.Intn(12)))
	}
	if r.Intn(2) == 0 {
		num.Neg(num)
	}
	if den.Sign() == 0 {
		den.SetInt64(1)
	}
	return ratio(new(big.Rat).SetFrac(num, den))
}

// notIntegers are strings that are no valid integers.
func notIntegers() []string {
	return []string{
		"", "-", "--1", "-0", "+0", "+1", "00", "01", "-01", "007", "1-", " ", " 1", "1 ", "- 1", "\t1", "1\n", "\x00", "1,000", "1_0", "1.0", "1.", ".1", "1e3", "0x1", "a",
		"/", "1/", "/1", "1/1", "1/2", "3/2", ":", "\xff", "１", "½", "Inf", "NaN",
		nines(201), "-" + nines(201), ten(200), "-" + ten(200), "0" + nines(199), "+" + nines(199), nines(200) + " ", strings.Repeat("0", 200), strings.Repeat("1", 70000),
	}
}

// invalid are fractions that are not valid.
func invalid() []api.Ratio {
	all := []api.Ratio{
		{}, {Num: "1"}, {Num: "0"}, {Den: "1"}, {Den: "2"},
		{Num: "0", Den: "0"}, {Num: "1", Den: "0"}, {Num: "-1", Den: "0"}, {Num: "5", Den: "0"}, {Num: nines(200), Den: "0"},
		{Num: "0", Den: "-1"}, {Num: "1", Den: "-1"}, {Num: "1", Den: "-2"}, {Num: "-1", Den: "-2"}, {Num: "-3", Den: "-1"}, {Num: "1", Den: "-" + nines(200)},
		{Num: "0", Den: "2"}, {Num: "0", Den: "10"}, {Num: "0", Den: nines(200)},
		{Num: "2", Den: "2"}, {Num: "2", Den: "4"}, {Num: "-2", Den: "4"}, {Num: "4", Den: "2"}, {Num: "6", Den: "4"}, {Num: "-6", Den: "4"}, {Num: "10", Den: "15"}, {Num: "-1000", Den: "1000"},
		{Num: nines(200), Den: nines(200)}, {Num: nines(200), Den: "3"}, {Num: ten(199), Den: ten(198)}, {Num: "-" + nines(200), Den: nines(100)},
	}
	for _, s := range notIntegers() {
		all = append(all, api.Ratio{Num: s, Den: "1"}, api.Ratio{Num: s, Den: "2"}, api.Ratio{Num: "1", Den: s}, api.Ratio{Num: "0", Den: s}, api.Ratio{Num: s, Den: s})
	}
	return all
}
