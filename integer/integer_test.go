package integer_test

import (
	"math/big"
	"strconv"
	"strings"
	"testing"

	"slatewall/api"
	"slatewall/integer"
)

// P3.1: the examples of the chapter.
func TestExamples(t *testing.T) {
	for s, valid := range map[string]bool{"0": true, "-7": true, "007": false, "-0": false, "+1": false, "": false} {
		wantValid(t, s, valid)
	}
	want(t, "1000")(integer.Add("999", "1"))
	want(t, "-999")(integer.Sub("1", "1000"))
	want(t, "-144")(integer.Mul("-12", "12"))
	for _, x := range []struct{ a, b, q, r string }{{"7", "2", "3", "1"}, {"-7", "2", "-4", "1"}, {"7", "-2", "-3", "1"}, {"-7", "-2", "4", "1"}} {
		if q, r, e := integer.Div(x.a, x.b); q != x.q || r != x.r || e != api.OK {
			t.Errorf("Div(%s, %s) = %s, %s, %d", x.a, x.b, q, r, e)
		}
	}
	want(t, "6")(integer.Gcd("12", "-18"))
	want(t, "9")(integer.Root("99"))
	root, e := integer.Root("-1")
	wantRefused(t, "Root(-1)", root, e)
	product, e := integer.Mul(nines(101), nines(101))
	wantRefused(t, "Mul of 101 digits", product, e)
}

// P3.1: all functions, for all small integers.
func TestSmall(t *testing.T) {
	for a := -130; a <= 130; a++ {
		for b := -130; b <= 130; b++ {
			x, y := strconv.Itoa(a), strconv.Itoa(b)
			want(t, strconv.Itoa(a+b))(integer.Add(x, y))
			want(t, strconv.Itoa(a-b))(integer.Sub(x, y))
			want(t, strconv.Itoa(a*b))(integer.Mul(x, y))
			wantPair(t, x, y)
		}
	}
}

// P3.1: all functions, for pairs of integers that are special.
func TestSpecial(t *testing.T) {
	all := special()
	for _, a := range all {
		wantRoot(t, a)
		for _, b := range all {
			wantPair(t, a, b)
		}
	}
}

// P3.1: all functions, for integers of any number of digits.
func TestAny(t *testing.T) {
	r := source()
	for _, most := range []int{4, 8, 9, 13, 17, 30, 100, 200} {
		for range 2000 {
			a, b := anyInteger(r, most), anyInteger(r, most)
			wantPair(t, a, b)
			wantPair(t, a, anyInteger(r, 12))
			wantRoot(t, a)
		}
	}
}

// P3.1: sums and differences of 200 digits, and of 201.
func TestSumLimit(t *testing.T) {
	most, half := nines(200), "5"+strings.Repeat("0", 199)
	for _, x := range []struct {
		a, b string
		fits bool
	}{
		{most, "0", true},
		{most, "1", false},
		{most, "-1", true},
		{shifted(most, -1), "1", true},
		{shifted(most, -1), "2", false},
		{most, most, false},
		{most, "-" + most, true},
		{half, half, false},
		{half, shifted(half, -1), true},
		{ten(199), "8" + nines(199), true},
		{ten(199), shifted("8"+nines(199), 1), false},
	} {
		for _, sign := range []string{"", "-"} {
			a, b := signedBy(sign, x.a), signedBy(sign, x.b)
			sum, e := integer.Add(a, b)
			if (e == api.OK) != x.fits || (digitsOf(sum) == 0) == x.fits {
				t.Errorf("%s = %s, %d", called("Add", a, b), sum, e)
			}
			difference, f := integer.Sub(a, signedBy("-", b))
			if difference != sum || e != f {
				t.Errorf("%s = %s, %d", called("Sub", a, signedBy("-", b)), difference, f)
			}
		}
	}
}

// signedBy is an integer times one, or, if sign is a minus, times minus one.
func signedBy(sign string, s string) string {
	if sign == "" || s == "0" {
		return s
	}
	if s[0] == '-' {
		return s[1:]
	}
	return "-" + s
}

// P3.1: products of 200 digits, and of 201, whichever of the arguments is longer.
func TestProductLimit(t *testing.T) {
	for n := 1; n < 200; n++ {
		for _, sign := range []string{"", "-"} {
			want(t, sign+ten(199))(integer.Mul(signedBy(sign, ten(n)), ten(199-n)))
			product, e := integer.Mul(signedBy(sign, ten(n)), ten(200-n))
			wantRefused(t, "Mul of "+strconv.Itoa(n+1)+" and "+strconv.Itoa(201-n)+" digits", product, e)
			// Nines and nines have as many digits as both have together.
			product, e = integer.Mul(signedBy(sign, nines(n)), nines(200-n))
			if digitsOf(product) != 200 || e != api.OK {
				t.Errorf("Mul of %d and %d nines has %d digits, %d", n, 200-n, digitsOf(product), e)
			}
			product, e = integer.Mul(signedBy(sign, nines(n)), nines(201-n))
			wantRefused(t, "Mul of "+strconv.Itoa(n)+" and "+strconv.Itoa(201-n)+" nines", product, e)
		}
	}
	// The greatest integer has divisors: their product fits, and the next multiple does not.
	for _, d := range []string{"3", "9", "11", "33", "99", "101", "9999", "99999999", nines(40), nines(100)} {
		q := new(big.Int).Quo(plain(nines(200)), plain(d))
		want(t, nines(200))(integer.Mul(d, q.String()))
		product, e := integer.Mul(d, shifted(q.String(), 1))
		wantRefused(t, "Mul beyond 200 digits", product, e)
	}
}

// P3.1 (R1): no call panics, whatever the strings are.
func TestAnyStrings(t *testing.T) {
	r := source()
	letters := "0123456789-+ 00x\xff"
	for range 20000 {
		var pair [2]string
		for i := range pair {
			b := make([]byte, r.Intn(8))
			for k := range b {
				b[k] = letters[r.Intn(len(letters))]
			}
			pair[i] = string(b)
		}
		a, b := pair[0], pair[1]
		if integers.MatchString(a) && integers.MatchString(b) {
			wantPair(t, a, b)
			wantRoot(t, a)
		} else {
			wantBothRefused(t, a, b)
		}
	}
}
