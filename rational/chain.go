package rational

import (
	"slatewall/api"
	"slatewall/integer"
)

// A step does one thing that a fraction needs, and says whether it could.
type step func() api.Errno

// An operation makes an integer of two others.
type operation func(string, string) (string, api.Errno)

// follow does the steps in their order. After one that fails, the others are skipped.
func follow(steps ...step) api.Errno {
	for _, next := range steps {
		if e := next(); e != api.OK {
			return e
		}
	}
	return api.OK
}

// set is the step that computes an integer from two others.
// All three are told by where they are: the two may be what steps before this one compute.
func set(to *string, compute operation, x *string, y *string) step {
	return func() (e api.Errno) {
		*to, e = compute(*x, *y)
		return e
	}
}

// check is the step that fails if one of the fractions is not valid.
func check(fractions ...api.Ratio) step {
	return func() api.Errno {
		for _, r := range fractions {
			if !Valid(r) {
				return api.ErrRational
			}
		}
		return api.OK
	}
}

// turn is the step that gives both integers the other sign if den is negative. It fails if den is 0, or no integer.
func turn(num *string, den *string) step {
	return func() api.Errno {
		switch integer.Compare(*den, "0") {
		case 0:
			return api.ErrRational
		case 1:
			return api.OK
		}
		zero := "0"
		return follow(set(num, integer.Sub, &zero, num), set(den, integer.Sub, &zero, den))
	}
}

// reduce is the step that makes num and den a valid fraction of the same value. It fails if den is 0, or one of them no integer.
func reduce(num *string, den *string) step {
	return func() api.Errno {
		var divisor string
		return follow(
			turn(num, den),
			set(&divisor, integer.Gcd, num, den),
			set(num, quotient, num, &divisor),
			set(den, quotient, den, &divisor))
	}
}

// quotient is the operation that divides, and forgets the remainder.
func quotient(a string, b string) (string, api.Errno) {
	q, _, e := integer.Div(a, b)
	return q, e
}

// fraction does the steps, and returns num divided by den as they are then, or ErrRational if a step fails.
func fraction(num *string, den *string, steps ...step) (api.Ratio, api.Errno) {
	if follow(steps...) != api.OK || follow(reduce(num, den)) != api.OK {
		return api.Ratio{}, api.ErrRational
	}
	return api.Ratio{Num: *num, Den: *den}, api.OK
}
