package integer

import "slatewall/api"

// number is an integer of any size: its amount, and whether it is less than 0.
type number struct {
	negative bool
	amount   amount
}

// signed returns the number with this amount and sign. Zero has no sign, so that each number has one integer only.
func signed(negative bool, a amount) number {
	return number{negative && len(a) > 0, a}
}

// fromInt returns the number n.
func fromInt(n int) number {
	rest := uint(n)
	if n < 0 {
		// No int is the least one without its sign, but an unsigned one is.
		rest = -rest
	}
	var groups amount
	for ; rest > 0; rest /= base {
		groups = append(groups, int(rest%base))
	}
	return signed(n < 0, groups)
}

// parse returns the number that s stands for, or ErrInteger if s is not valid.
func parse(s string) (number, api.Errno) {
	if !Valid(s) {
		return number{}, api.ErrInteger
	}
	negative, digits := cutSign(s)
	groups := make(amount, 0, len(digits)/groupDigits+1)
	for end := len(digits); end > 0; end -= groupDigits {
		groups = append(groups, valueOf(digits[max(0, end-groupDigits):end]))
	}
	return signed(negative, groups.trimmed()), api.OK
}

// parseBoth returns the numbers that a and b stand for, or ErrInteger if one of them is not valid.
func parseBoth(a string, b string) (number, number, api.Errno) {
	x, e := parse(a)
	if e != api.OK {
		return number{}, number{}, e
	}
	y, e := parse(b)
	if e != api.OK {
		return number{}, number{}, e
	}
	return x, y, api.OK
}

// printed returns the integer of a number, or ErrInteger if it has more than MaxDigits digits.
func printed(n number) (string, api.Errno) {
	s := n.text()
	if !Valid(s) {
		return "", api.ErrInteger
	}
	return s, api.OK
}

// text returns a number in decimal notation, however many digits it has.
func (n number) text() string {
	if n.isZero() {
		return "0"
	}
	// The digits are written from the last one on, behind a place that is left for the sign.
	text := make([]byte, 1+groupDigits*len(n.amount))
	at := len(text)
	for _, group := range n.amount {
		for range groupDigits {
			at--
			text[at] = byte('0' + group%10)
			group /= 10
		}
	}
	for text[at] == '0' {
		at++
	}
	if n.negative {
		at--
		text[at] = '-'
	}
	return string(text[at:])
}

// isZero says whether a number is 0.
func (n number) isZero() bool {
	return len(n.amount) == 0
}

// compare returns -1 if a is less than b, 1 if it is greater, and 0 if they are equal.
func (a number) compare(b number) int {
	if a.negative != b.negative {
		if a.negative {
			return -1
		}
		return 1
	}
	if a.negative {
		return b.amount.compare(a.amount)
	}
	return a.amount.compare(b.amount)
}

// plus returns the sum.
func (a number) plus(b number) number {
	if a.negative == b.negative {
		return signed(a.negative, a.amount.plus(b.amount))
	}
	if a.amount.compare(b.amount) < 0 {
		return signed(b.negative, b.amount.minus(a.amount))
	}
	return signed(a.negative, a.amount.minus(b.amount))
}

// minus returns the difference.
func (a number) minus(b number) number {
	return a.plus(signed(!b.negative, b.amount))
}

// times returns the product.
func (a number) times(b number) number {
	return signed(a.negative != b.negative, a.amount.times(b.amount))
}

// divided returns the quotient, and the remainder, which is not negative. b is not 0.
func (a number) divided(b number) (number, number) {
	q, r := a.amount.divided(b.amount)
	if a.negative && len(r) > 0 {
		// The remainder is not negative: it is counted from the next multiple of b, which is farther from 0 than a is.
		q, r = q.plus(amount{1}), b.amount.minus(r)
	}
	return signed(a.negative != b.negative, q), signed(false, r)
}

// gcd returns the greatest common divisor.
func (a number) gcd(b number) number {
	return signed(false, a.amount.gcd(b.amount))
}
