package integer_test

import (
	"math"
	"math/big"
	"math/rand"
	"slices"
	"strconv"
	"strings"
	"testing"

	"slatewall/api"
	"slatewall/integer"
)

// This file computes results in another way than the package does: with the library's numbers, in decimal notation of the library.

// source is the same for every run of a test.
func source() *rand.Rand { return rand.New(rand.NewSource(3)) }

// plain is the number of an integer.
func plain(s string) *big.Int {
	n, ok := new(big.Int).SetString(s, 10)
	if !ok {
		panic("no integer: " + s)
	}
	return n
}

// digitsOf is how many digits an integer has.
func digitsOf(s string) int { return len(strings.TrimPrefix(s, "-")) }

// wantResult checks a result: the integer of the number, or none if that has more than 200 digits.
func wantResult(t *testing.T, call string, got string, e api.Errno, number *big.Int) {
	t.Helper()
	want, f := number.String(), api.OK
	if digitsOf(want) > api.MaxDigits {
		want, f = "", api.ErrInteger
	}
	if got != want || e != f {
		t.Errorf("%.900q = %s, %d; want %s, %d", call, got, e, want, f)
	}
}

// wantRefused checks that a call returns nothing but ErrInteger.
func wantRefused(t *testing.T, call string, got string, e api.Errno) {
	t.Helper()
	if got != "" || e != api.ErrInteger {
		t.Errorf("%.900q = %.200q, %d; want ErrInteger", call, got, e)
	}
}

// called is how a call with two arguments is written.
func called(name string, a string, b string) string { return name + "(" + a + ", " + b + ")" }

// wantPair checks all functions that have two integers as arguments.
func wantPair(t *testing.T, a string, b string) {
	t.Helper()
	x, y := plain(a), plain(b)
	if got := integer.Compare(a, b); got != x.Cmp(y) {
		t.Errorf("%q = %d; want %d", called("Compare", a, b), got, x.Cmp(y))
	}
	sum, e := integer.Add(a, b)
	wantResult(t, called("Add", a, b), sum, e, new(big.Int).Add(x, y))
	difference, e := integer.Sub(a, b)
	wantResult(t, called("Sub", a, b), difference, e, new(big.Int).Sub(x, y))
	product, e := integer.Mul(a, b)
	wantResult(t, called("Mul", a, b), product, e, new(big.Int).Mul(x, y))
	divisor, e := integer.Gcd(a, b)
	wantResult(t, called("Gcd", a, b), divisor, e, new(big.Int).GCD(nil, nil, new(big.Int).Abs(x), new(big.Int).Abs(y)))
	wantDiv(t, a, b)
}

// wantDiv checks what Div returns.
func wantDiv(t *testing.T, a string, b string) {
	t.Helper()
	q, r, e := integer.Div(a, b)
	if b == "0" {
		wantRefused(t, called("Div", a, b), q+r, e)
		return
	}
	quotient, remainder := new(big.Int).DivMod(plain(a), plain(b), new(big.Int))
	wantResult(t, called("Div", a, b), q, e, quotient)
	wantResult(t, called("the remainder of Div", a, b), r, e, remainder)
}

// wantRoot checks what Root returns.
func wantRoot(t *testing.T, s string) {
	t.Helper()
	root, e := integer.Root(s)
	n := plain(s)
	if n.Sign() < 0 {
		wantRefused(t, "Root("+s+")", root, e)
		return
	}
	wantResult(t, "Root("+s+")", root, e, n.Sqrt(n))
}

// nines is the integer of n nines.
func nines(n int) string { return strings.Repeat("9", n) }

// ten is the integer that is ten to the power of n.
func ten(n int) string { return "1" + strings.Repeat("0", n) }

// shifted is an integer that is n greater than another one.
func shifted(s string, n int) string {
	return new(big.Int).Add(plain(s), big.NewInt(int64(n))).String()
}

// special are valid integers near to what may make a difference: zero, powers of ten, the ends of ints, and of what is valid.
func special() []string {
	all := []string{"0"}
	add := func(l ...string) {
		for _, s := range l {
			all = append(all, s, "-"+s)
		}
	}
	add("1", "2", "3", "5", "7", "8", "9", "12", "25", "5000", "4999", "5001", "20000", "99990000", "99999998")
	for _, n := range []int{1, 3, 4, 5, 7, 8, 9, 12, 16, 20, 24, 50, 99, 100, 101, 104, 150, 198, 199} {
		add(ten(n), shifted(ten(n), -1), shifted(ten(n), 1))
	}
	for _, n := range []int{1<<31 - 1, 1 << 31, 1 << 32, 1<<62 - 1, math.MaxInt - 1, math.MaxInt} {
		add(strconv.Itoa(n))
	}
	add("9223372036854775808", "9223372036854775809", "18446744073709551616", nines(200), shifted(nines(200), -1))
	add("5"+strings.Repeat("0", 199), "4"+nines(199), strings.Repeat("0001", 50)[3:], strings.Repeat("1234567890", 20))
	slices.Sort(all)
	return slices.Compact(all)
}

// anyInteger is a valid integer of at most n digits; many of its groups are at the ends of what groups are.
func anyInteger(r *rand.Rand, n int) string {
	text := ""
	for len(text) < n {
		switch r.Intn(4) {
		case 0:
			text += []string{"0000", "0001", "4999", "5000", "9998", "9999"}[r.Intn(6)]
		default:
			text += strconv.Itoa(10000 + r.Intn(10000))[1:]
		}
	}
	text = text[:1+r.Intn(n)]
	s := strings.TrimLeft(text, "0")
	if s == "" {
		return "0"
	}
	if r.Intn(2) == 0 {
		return "-" + s
	}
	return s
}

// invalid are strings that are no valid integers.
func invalid() []string {
	return []string{
		"", "-", "--", "--1", "-0", "-00", "+0", "+1", "+", "00", "000", "01", "-01", "007", "-007", "0-", "1-", "-1-", "1-1",
		" ", " 1", "1 ", "- 1", "1 1", "\t1", "1\n", "\x00", "1\x00", "\x001", "1,000", "1_000", "1.0", "1.", ".1", "1e3", "0x1", "1a", "a", "A1",
		"/", ":", "1/", "1:", "-/", "-:", "/1", ":1", "1/2", "\xb1", "1\xb1", "\xff", "٣", "1٣", "９", "−1", "½", "Inf", "NaN", "nil",
		nines(201), "-" + nines(201), ten(200), "-" + ten(200), "0" + nines(199), "0" + nines(200), "+" + nines(199), nines(200) + " ", "-0" + nines(199),
		nines(100) + "x" + nines(99), nines(199) + "x", "--" + nines(199), strings.Repeat("0", 200), strings.Repeat("1", 70000), strings.Repeat("-", 200),
	}
}
