package integer_test

import (
	"math"
	"math/big"
	"regexp"
	"strconv"
	"strings"
	"testing"

	"slatewall/api"
	"slatewall/integer"
)

// integers is what the chapter calls an integer.
var integers = regexp.MustCompile(`\A(0|-?[1-9][0-9]*)\z`)

// wantValid checks what Valid says.
func wantValid(t *testing.T, s string, want bool) {
	t.Helper()
	if integer.Valid(s) != want {
		t.Errorf("Valid(%.300q) = %v", s, !want)
	}
}

// P3.1: integers of any number of digits up to 200, and strings that are none.
func TestValid(t *testing.T) {
	for _, s := range special() {
		wantValid(t, s, true)
	}
	for n := 1; n <= 210; n++ {
		for _, s := range []string{nines(n), ten(n - 1), strings.Repeat("1", n)} {
			wantValid(t, s, n <= 200)
			wantValid(t, "-"+s, n <= 200)
			wantValid(t, "0"+s, false)
			wantValid(t, "-0"+s, false)
			wantValid(t, "+"+s, false)
		}
	}
	for _, s := range invalid() {
		wantValid(t, s, false)
	}
}

// P3.1: every string of up to two bytes, and of up to six of some bytes.
func TestValidShort(t *testing.T) {
	wantValid(t, "", false)
	for a := range 256 {
		one := string([]byte{byte(a)})
		wantValid(t, one, integers.MatchString(one))
		for b := range 256 {
			two := string([]byte{byte(a), byte(b)})
			wantValid(t, two, integers.MatchString(two))
		}
	}
	var extend func(s string)
	extend = func(s string) {
		wantValid(t, s, integers.MatchString(s))
		if len(s) == 6 {
			return
		}
		for _, c := range []string{"-", "0", "1", "9", "+", "a"} {
			extend(s + c)
		}
	}
	extend("")
}

// P3.1: a byte that is no digit is found wherever it is.
func TestValidEveryByte(t *testing.T) {
	s := nines(200)
	for i := range len(s) {
		for _, c := range []string{"-", "+", " ", "/", ":", "\x00", "\xb9", "x"} {
			changed := s[:i] + c + s[i+1:]
			wantValid(t, changed, c == "-" && i == 0)
			wantValid(t, "-"+changed, false)
		}
		wantValid(t, s[:i]+"0"+s[i+1:], i > 0)
	}
}

// P3.1: ints, near 0 and near the powers of two and of ten, and their integers.
func TestInts(t *testing.T) {
	check := func(n int) {
		t.Helper()
		s := strconv.Itoa(n)
		if got := integer.FromInt(n); got != s {
			t.Errorf("FromInt(%d) = %s", n, got)
		}
		if got, e := integer.ToInt(s); got != n || e != api.OK {
			t.Errorf("ToInt(%s) = %d, %d", s, got, e)
		}
	}
	for n := -20000; n <= 20000; n++ {
		check(n)
	}
	for k := range 64 {
		for d := -2; d <= 2; d++ {
			// At the ends this wraps around, to the other end.
			check(1<<k + d)
			check(-1<<k + d)
		}
	}
	for n := 1; n < math.MaxInt/10; n *= 10 {
		for d := -2; d <= 2; d++ {
			check(n + d)
			check(-n + d)
		}
	}
	r := source()
	for range 20000 {
		check(int(r.Uint64()) >> r.Intn(64))
	}
}

// P3.1: what is beyond the ints is none of them, though it would be one if it wrapped around.
func TestToIntBeyond(t *testing.T) {
	wrap := new(big.Int).Lsh(big.NewInt(1), 64)
	var numbers []*big.Int
	for _, n := range []int{0, 1, -1, 42, -42, math.MaxInt, math.MinInt, math.MaxInt - 1, math.MinInt + 1, 1 << 40} {
		x := big.NewInt(int64(n))
		for _, times := range []int64{1, -1, 2, -2, 3, 5, 10, -10, 1 << 40} {
			numbers = append(numbers, new(big.Int).Add(x, new(big.Int).Mul(wrap, big.NewInt(times))))
		}
	}
	for d := range int64(1000) {
		half := new(big.Int).Rsh(wrap, 1)
		numbers = append(numbers, new(big.Int).Add(half, big.NewInt(d)), new(big.Int).Sub(new(big.Int).Neg(half), big.NewInt(d+1)))
	}
	for _, s := range append(special(), "9223372036854775808", "-9223372036854775809") {
		if n := plain(s); !n.IsInt64() {
			numbers = append(numbers, n)
		}
	}
	for _, n := range numbers {
		if got, e := integer.ToInt(n.String()); got != 0 || e != api.ErrInteger {
			t.Errorf("ToInt(%s) = %d, %d; want ErrInteger", n, got, e)
		}
	}
}

// P3.1: no function takes what is no integer, as whichever argument.
func TestInvalid(t *testing.T) {
	for _, s := range invalid() {
		if n, e := integer.ToInt(s); n != 0 || e != api.ErrInteger {
			t.Errorf("ToInt(%.300q) = %d, %d; want ErrInteger", s, n, e)
		}
		root, e := integer.Root(s)
		wantRefused(t, "Root("+s+")", root, e)
		for _, other := range []string{"0", "1", "-7", nines(200), s, "", "007"} {
			wantBothRefused(t, s, other)
			wantBothRefused(t, other, s)
		}
	}
}

// wantBothRefused checks that no function takes these arguments, of which at least one is no integer.
func wantBothRefused(t *testing.T, a string, b string) {
	t.Helper()
	if got := integer.Compare(a, b); got != 0 {
		t.Errorf("%.900q = %d; want 0", called("Compare", a, b), got)
	}
	sum, e := integer.Add(a, b)
	wantRefused(t, called("Add", a, b), sum, e)
	difference, e := integer.Sub(a, b)
	wantRefused(t, called("Sub", a, b), difference, e)
	product, e := integer.Mul(a, b)
	wantRefused(t, called("Mul", a, b), product, e)
	q, r, e := integer.Div(a, b)
	wantRefused(t, called("Div", a, b), q+r, e)
	divisor, e := integer.Gcd(a, b)
	wantRefused(t, called("Gcd", a, b), divisor, e)
}

// P3.2: however a number is come to, its integer is the same; zero has no sign.
func TestOneIntegerEach(t *testing.T) {
	r := source()
	for _, s := range append(special(), anyInteger(r, 200), anyInteger(r, 90)) {
		want(t, "0")(integer.Sub(s, s))
		want(t, "0")(integer.Mul(s, "0"))
		want(t, "0")(integer.Mul("0", s))
		want(t, s)(integer.Add(s, "0"))
		want(t, s)(integer.Add("0", s))
		want(t, s)(integer.Sub(s, "0"))
		want(t, s)(integer.Mul(s, "1"))
		negated, e := integer.Sub("0", s)
		want(t, negated)(integer.Mul(s, "-1"))
		want(t, "0")(integer.Add(s, negated))
		want(t, s)(integer.Sub("0", negated))
		want(t, strings.TrimPrefix(s, "-"))(integer.Gcd(s, "0"))
		want(t, strings.TrimPrefix(s, "-"))(integer.Gcd("0", s))
		if e != api.OK || integer.Compare(s, negated) != plain(s).Sign() {
			t.Errorf("0 less %s = %s, %d", s, negated, e)
		}
		if s == "0" {
			continue
		}
		for divisor, q := range map[string]string{"1": s, "-1": negated, s: "1", negated: "-1"} {
			if quotient, remainder, e := integer.Div(s, divisor); quotient != q || remainder != "0" || e != api.OK {
				t.Errorf("Div(%s, %s) = %s, %s, %d", s, divisor, quotient, remainder, e)
			}
		}
		if q, r, e := integer.Div("0", s); q != "0" || r != "0" || e != api.OK {
			t.Errorf("Div(0, %s) = %s, %s, %d", s, q, r, e)
		}
	}
}

// want returns what checks that a call returns this integer.
func want(t *testing.T, s string) func(got string, e api.Errno) {
	return func(got string, e api.Errno) {
		t.Helper()
		if got != s || e != api.OK {
			t.Errorf("got %s, %d; want %s", got, e, s)
		}
	}
}

// P3.2: two different strings that are valid are different numbers.
func TestOneNumberEach(t *testing.T) {
	all := special()
	for i, a := range all {
		for j, b := range all {
			if (integer.Compare(a, b) == 0) != (i == j) {
				t.Errorf("Compare(%s, %s) = %d", a, b, integer.Compare(a, b))
			}
			if difference, e := integer.Sub(a, b); (difference == "0") != (i == j) {
				t.Errorf("Sub(%s, %s) = %s, %d", a, b, difference, e)
			}
		}
	}
}
