package integer_test

import (
	"math/big"
	"strconv"
	"strings"
	"testing"

	"slatewall/api"
	"slatewall/integer"
)

// must returns what checks that a call returns no error, and returns its integer.
func must(t *testing.T) func(s string, e api.Errno) string {
	return func(s string, e api.Errno) string {
		t.Helper()
		if e != api.OK {
			t.Fatalf("error %d", e)
		}
		return s
	}
}

// P3.3: sums and products are commutative and associative, products distribute over sums, and a difference is what is to be added.
func TestSumsAndProducts(t *testing.T) {
	r, ok := source(), must(t)
	for range 6000 {
		a, b, c := anyInteger(r, 66), anyInteger(r, 66), anyInteger(r, 65)
		sum, product := ok(integer.Add(a, b)), ok(integer.Mul(a, b))
		want(t, sum)(integer.Add(b, a))
		want(t, product)(integer.Mul(b, a))
		want(t, ok(integer.Add(sum, c)))(integer.Add(a, ok(integer.Add(b, c))))
		want(t, ok(integer.Mul(product, c)))(integer.Mul(a, ok(integer.Mul(b, c))))
		want(t, ok(integer.Mul(sum, c)))(integer.Add(ok(integer.Mul(a, c)), ok(integer.Mul(b, c))))
		difference := ok(integer.Sub(a, b))
		want(t, a)(integer.Add(b, difference))
		want(t, difference)(integer.Add(a, ok(integer.Sub("0", b))))
		want(t, b)(integer.Sub(sum, a))
	}
}

// P3.3: the same of integers of up to 200 digits, where a sum may have more.
func TestLongSums(t *testing.T) {
	r := source()
	for range 6000 {
		a, b, c := anyInteger(r, 200), anyInteger(r, 200), anyInteger(r, 200)
		left, e := integer.Add(a, b)
		back, f := integer.Add(b, a)
		if left != back || e != f {
			t.Errorf("%s = %s, %d, and turned around %s, %d", called("Add", a, b), left, e, back, f)
		}
		right, f := integer.Add(b, c)
		if e == api.OK && f == api.OK {
			left, e = integer.Add(left, c)
			right, f = integer.Add(a, right)
			if left != right || e != f {
				t.Errorf("%s and %s: %s, %d, and %s, %d", a, called("Add", b, c), left, e, right, f)
			}
		}
		if difference, e := integer.Sub(a, b); e == api.OK {
			want(t, a)(integer.Add(difference, b))
		}
	}
}

// wantDivides checks that the quotient times the divisor plus the remainder is the dividend, and the remainder is in its bounds.
func wantDivides(t *testing.T, a string, b string) {
	t.Helper()
	wantDiv(t, a, b)
	q, r, e := integer.Div(a, b)
	product, f := integer.Mul(q, b)
	if e != api.OK || f != api.OK {
		// A multiple of b that is beyond 200 digits may be the one below a negative dividend.
		if e != api.OK || plain(a).Sign() >= 0 {
			t.Errorf("%s = %s, %s, %d; times the divisor: %d", called("Div", a, b), q, r, e, f)
		}
		return
	}
	want(t, a)(integer.Add(product, r))
	size := strings.TrimPrefix(b, "-")
	if integer.Compare(r, "0") < 0 || integer.Compare(r, size) >= 0 {
		t.Errorf("%s has the remainder %s", called("Div", a, b), r)
	}
	// The next remainders that leave a multiple of b are out of bounds.
	if integer.Compare(plain(r).Sub(plain(r), plain(size)).String(), "0") >= 0 || integer.Compare(new(big.Int).Add(plain(r), plain(size)).String(), size) < 0 {
		t.Errorf("%s has more than one remainder", called("Div", a, b))
	}
}

// P3.4: of small integers, what Div returns is the only quotient with the only remainder.
func TestDivSmall(t *testing.T) {
	for a := -60; a <= 60; a++ {
		for b := -25; b <= 25; b++ {
			found := 0
			for q := -60; q <= 60 && b != 0; q++ {
				r := a - q*b
				if r < 0 || r >= max(b, -b) {
					continue
				}
				found++
				if quotient, remainder, e := integer.Div(strconv.Itoa(a), strconv.Itoa(b)); quotient != strconv.Itoa(q) || remainder != strconv.Itoa(r) || e != api.OK {
					t.Errorf("Div(%d, %d) = %s, %s, %d; want %d, %d", a, b, quotient, remainder, e, q, r)
				}
			}
			if found != 1 && b != 0 {
				t.Errorf("%d by %d has %d quotients", a, b, found)
			}
		}
	}
}

// P3.4: integers of any number of digits.
func TestDivAny(t *testing.T) {
	r := source()
	for _, most := range []int{5, 12, 16, 40, 200} {
		for range 3000 {
			a, b := anyInteger(r, 200), anyInteger(r, most)
			if b != "0" {
				wantDivides(t, a, b)
			}
		}
	}
}

// groupsOf are all numbers with n groups of four digits after a first one, of groups that are at the ends of what groups are.
func groupsOf(n int) []*big.Int {
	var all []*big.Int
	for _, first := range []int64{1, 2, 4999, 5000, 9998, 9999} {
		all = append(all, big.NewInt(first))
	}
	for range n {
		var longer []*big.Int
		for _, x := range all {
			for _, group := range []int64{0, 1, 5000, 9999} {
				y := new(big.Int).Mul(x, big.NewInt(10000))
				longer = append(longer, y.Add(y, big.NewInt(group)))
			}
		}
		all = longer
	}
	return all
}

// P3.4: multiples of integers with groups of zeros and nines, and their neighbours: there a quotient is easily one too great or too small.
func TestDivNearMultiples(t *testing.T) {
	var quotients []*big.Int
	for n := range 2 {
		quotients = append(quotients, groupsOf(n)...)
	}
	for n := range 5 {
		for i, b := range groupsOf(n) {
			// Of the longest ones every seventh is enough: all of the others are their beginnings.
			if n == 4 && i%7 > 0 {
				continue
			}
			for _, q := range quotients {
				product := new(big.Int).Mul(b, q)
				for _, d := range []int64{-1, 0, 1} {
					wantDiv(t, new(big.Int).Add(product, big.NewInt(d)).String(), b.String())
				}
			}
		}
	}
}

// P3.4: the greatest and the least integers, by divisors that are short, long or negative.
func TestDivLimit(t *testing.T) {
	for _, a := range []string{nines(200), "-" + nines(200), ten(199), "-" + ten(199)} {
		for _, b := range special() {
			if b != "0" {
				wantDivides(t, a, b)
			}
		}
		for n := 1; n <= 200; n++ {
			wantDivides(t, a, nines(n))
			wantDivides(t, a, "-"+ten(n-1))
		}
	}
}

// divides says whether Div leaves nothing.
func divides(d string, s string) bool {
	if d == "0" {
		return s == "0"
	}
	_, r, e := integer.Div(s, d)
	return e == api.OK && r == "0"
}

// P3.5: of small integers, Gcd is the common divisor that all others divide.
func TestGcdSmall(t *testing.T) {
	for a := -40; a <= 40; a++ {
		for b := -40; b <= 40; b++ {
			x, y := strconv.Itoa(a), strconv.Itoa(b)
			divisor, e := integer.Gcd(x, y)
			if e != api.OK || divisor[0] == '-' || !divides(divisor, x) || !divides(divisor, y) {
				t.Errorf("Gcd(%d, %d) = %s, %d", a, b, divisor, e)
			}
			for d := 1; d <= 40; d++ {
				if a%d == 0 && b%d == 0 && !divides(strconv.Itoa(d), divisor) {
					t.Errorf("Gcd(%d, %d) = %s: %d does not divide it", a, b, divisor, d)
				}
			}
		}
	}
	want(t, "0")(integer.Gcd("0", "0"))
}

// P3.5: of integers that are made to have a common divisor, this one divides Gcd.
func TestGcdAny(t *testing.T) {
	r, ok := source(), must(t)
	for _, most := range []int{1, 4, 30, 99} {
		for range 1000 {
			c, a, b := anyInteger(r, most), anyInteger(r, 199-most), anyInteger(r, 100)
			x, y := ok(integer.Mul(c, a)), ok(integer.Mul(c, b))
			divisor := ok(integer.Gcd(x, y))
			if divisor[0] == '-' || !divides(divisor, x) || !divides(divisor, y) || !divides(c, divisor) {
				t.Errorf("%s = %s", called("Gcd", x, y), divisor)
			}
			want(t, divisor)(integer.Gcd(y, x))
			want(t, divisor)(integer.Gcd(signedBy("-", x), y))
			want(t, divisor)(integer.Gcd(x, signedBy("-", y)))
		}
	}
}

// P3.5: of Fibonacci numbers, which take the most divisions, up to 200 digits: Gcd is that with the greatest common divisor of their numbers.
func TestGcdFibonacci(t *testing.T) {
	l := []string{"0", "1"}
	for {
		next, e := integer.Add(l[len(l)-2], l[len(l)-1])
		if e != api.OK {
			break
		}
		l = append(l, next)
	}
	if digitsOf(l[len(l)-1]) != 200 {
		t.Fatalf("the last one of %d has %d digits", len(l), digitsOf(l[len(l)-1]))
	}
	for _, x := range [][3]int{{len(l) - 1, len(l) - 2, 1}, {900, 600, 300}, {900, 899, 1}, {12, 18, 6}, {840, 360, 120}, {955, 764, 191}} {
		want(t, l[x[2]])(integer.Gcd(l[x[0]], l[x[1]]))
		want(t, l[x[2]])(integer.Gcd("-"+l[x[1]], l[x[0]]))
	}
}

// wantBetween checks that the square of Root is at most s, and that the next square is greater.
func wantBetween(t *testing.T, s string) {
	t.Helper()
	root := must(t)(integer.Root(s))
	next := shifted(root, 1)
	square, e := integer.Mul(root, root)
	above, f := integer.Mul(next, next)
	if e != api.OK || integer.Compare(square, s) > 0 || f == api.OK && integer.Compare(above, s) <= 0 {
		t.Errorf("Root(%s) = %s", s, root)
	}
}

// P3.6: the roots of all small integers.
func TestRootSmall(t *testing.T) {
	root := 0
	for n := range 30000 {
		if n == (root+1)*(root+1) {
			root++
		}
		want(t, strconv.Itoa(root))(integer.Root(strconv.Itoa(n)))
	}
}

// P3.6: squares, and their neighbours.
func TestRootOfSquares(t *testing.T) {
	r := source()
	roots := []string{nines(100), ten(99), shifted(nines(100), -1), "31622776601683793319", "99989999", "100009999"}
	for n := 1; n < 100; n++ {
		roots = append(roots, ten(n), nines(n), shifted(ten(n), 1))
	}
	for range 1000 {
		roots = append(roots, anyInteger(r, 100))
	}
	for _, root := range roots {
		if root[0] == '-' || root == "0" {
			continue
		}
		square := must(t)(integer.Mul(root, root))
		want(t, root)(integer.Root(square))
		want(t, root)(integer.Root(shifted(square, 1)))
		want(t, shifted(root, -1))(integer.Root(shifted(square, -1)))
		// What is less than the next square by one is the square and twice the root.
		want(t, root)(integer.Root(must(t)(integer.Add(square, must(t)(integer.Mul(root, "2"))))))
		if next, e := integer.Mul(shifted(root, 1), shifted(root, 1)); e == api.OK {
			want(t, shifted(root, 1))(integer.Root(next))
		}
		wantBetween(t, square)
	}
}

// P3.6: integers of any number of digits, and negative ones, which have no root.
func TestRootAny(t *testing.T) {
	r := source()
	for range 3000 {
		s := anyInteger(r, 200)
		if s[0] != '-' {
			wantBetween(t, s)
		}
		wantRoot(t, s)
	}
	for _, s := range append(special(), "-1", "-2", "-4", "-9999", "-10000", "-"+nines(200)) {
		wantRoot(t, s)
	}
}

// P3.7: Compare is the order of the numbers, agrees with the sign of the difference, and is kept by adding the same.
func TestOrder(t *testing.T) {
	all := special()
	r := source()
	for range 60 {
		all = append(all, anyInteger(r, 200), anyInteger(r, 20))
	}
	for _, a := range all {
		for _, b := range all {
			compared := integer.Compare(a, b)
			if compared != plain(a).Cmp(plain(b)) || integer.Compare(b, a) != -compared || (a == b) != (compared == 0) {
				t.Errorf("Compare(%s, %s) = %d, and turned around %d", a, b, compared, integer.Compare(b, a))
			}
			if difference, e := integer.Sub(a, b); e == api.OK && integer.Compare(difference, "0") != compared {
				t.Errorf("Compare(%s, %s) = %d, and their difference is %s", a, b, compared, difference)
			}
			c := all[r.Intn(len(all))]
			x, e := integer.Add(a, c)
			y, f := integer.Add(b, c)
			if e == api.OK && f == api.OK && integer.Compare(x, y) != compared {
				t.Errorf("Compare(%s, %s) = %d, and with %s added %d", a, b, compared, c, integer.Compare(x, y))
			}
		}
	}
}

// P3.7: the order is transitive, and integers that differ only in one digit are told apart, wherever it is.
func TestOrderOfDigits(t *testing.T) {
	for i := range 200 {
		b := []byte(nines(200))
		b[i] = '8'
		s := string(b)
		for _, x := range []struct {
			a, b string
			want int
		}{{s, nines(200), -1}, {nines(200), s, 1}, {"-" + s, "-" + nines(200), 1}, {"-" + nines(200), "-" + s, -1}, {s, s, 0}, {"-" + s, s, -1}} {
			if got := integer.Compare(x.a, x.b); got != x.want {
				t.Errorf("Compare(%s, %s) = %d", x.a, x.b, got)
			}
		}
	}
	r := source()
	for range 20000 {
		a, b, c := anyInteger(r, 9), anyInteger(r, 9), anyInteger(r, 9)
		if integer.Compare(a, b) <= 0 && integer.Compare(b, c) <= 0 && integer.Compare(a, c) > 0 {
			t.Errorf("%s, %s and %s go in a circle", a, b, c)
		}
	}
}
