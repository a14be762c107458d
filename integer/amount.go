package integer

const (
	// base is how many values a group of digits has.
	base = 10000
	// groupDigits is how many digits a group has.
	groupDigits = 4
	// leadingGroups is how many groups of a divisor bound a group of the quotient. Those of the rest at the same places may be one more, and fit an int, too.
	leadingGroups = 3
)

// amount is a number that is not negative: its groups of four digits, the least significant one first. The last group is not 0; zero has none.
type amount []int

// trimmed returns the amount without groups at its end that are 0.
func (a amount) trimmed() amount {
	for len(a) > 0 && a[len(a)-1] == 0 {
		a = a[:len(a)-1]
	}
	return a
}

// carried returns the sum of the columns: each counts as a group at its place does, but may be negative, or greater than a group.
// The sum is not negative, and needs no more groups than there are columns. These are overwritten, each after it was read.
func carried(columns []int) amount {
	groups := columns[:0]
	fold(columns, 0, func(carry int, column int) int {
		sum := carry + column
		group := (sum%base + base) % base
		groups = append(groups, group)
		return (sum - group) / base
	})
	return amount(groups).trimmed()
}

// compare returns -1 if a is less than b, 1 if it is greater, and 0 if they are equal.
func (a amount) compare(b amount) int {
	if len(a) != len(b) {
		return order(len(a), len(b))
	}
	for i := len(a) - 1; i >= 0; i-- {
		if a[i] != b[i] {
			return order(a[i], b[i])
		}
	}
	return 0
}

// plus returns the sum.
func (a amount) plus(b amount) amount {
	columns := make([]int, max(len(a), len(b))+1)
	copy(columns, a)
	for i, group := range b {
		columns[i] += group
	}
	return carried(columns)
}

// minus returns the difference. b is not greater than a.
func (a amount) minus(b amount) amount {
	columns := make([]int, len(a))
	copy(columns, a)
	for i, group := range b {
		columns[i] -= group
	}
	return carried(columns)
}

// times returns the product.
func (a amount) times(b amount) amount {
	columns := make([]int, len(a)+len(b))
	for i, group := range a {
		for j, other := range b {
			columns[i+j] += group * other
		}
	}
	return carried(columns)
}

// divided returns the quotient and the remainder. b is not 0.
func (a amount) divided(b amount) (amount, amount) {
	// As long as the leading groups are fewer than those of b, they are less than b, and the quotient has no group there.
	first := max(0, len(a)-len(b)+1)
	quotient := make(amount, first)
	rest := a[first:]
	for i := first - 1; i >= 0; i-- {
		rest = rest.followed(a[i])
		quotient[i] = quotientGroup(rest, b)
		rest = rest.minus(b.times(amount{quotient[i]}))
	}
	return quotient.trimmed(), rest
}

// followed returns the amount with one more group behind its least significant one.
func (a amount) followed(group int) amount {
	longer := make(amount, 1, len(a)+1)
	longer[0] = group
	return append(longer, a...).trimmed()
}

// quotientGroup returns the quotient of rest and b, which is less than the base.
func quotientGroup(rest amount, b amount) int {
	times := b.times
	least, most := quotientBounds(rest, b)
	return greatest(least, most, func(group int) bool {
		return times(amount{group}).compare(rest) <= 0
	})
}

// quotientBounds returns the least and the greatest number that the quotient of rest and b may be, as far as their leading groups tell.
// They seldom leave a choice: a search from 0 on would multiply all groups of b a dozen times.
func quotientBounds(rest amount, b amount) (int, int) {
	place := max(0, len(b)-leadingGroups)
	r, t := rest.from(place), b.from(place)
	if place == 0 {
		// Nothing is left behind the leading groups that could make a difference.
		return r / t, r / t
	}
	return r / (t + 1), r / t
}

// from returns the number that the groups from a place on are.
func (a amount) from(place int) int {
	n := 0
	for i := len(a) - 1; i >= place; i-- {
		n = n*base + a[i]
	}
	return n
}

// gcd returns the greatest common divisor: 0 if both are 0.
func (a amount) gcd(b amount) amount {
	for len(b) > 0 {
		_, r := a.divided(b)
		a, b = b, r
	}
	return a
}

// root returns the greatest amount whose square is at most a.
func (a amount) root() amount {
	if len(a) == 0 {
		return nil
	}
	// From a number that is greater than the root, Newton's steps go down until they reach it.
	guess := make(amount, (len(a)+1)/2+1)
	guess[len(guess)-1] = 1
	for {
		q, _ := a.divided(guess)
		next, _ := guess.plus(q).divided(amount{2})
		if next.compare(guess) >= 0 {
			return guess
		}
		guess = next
	}
}
