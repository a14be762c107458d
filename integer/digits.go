package integer

// cutSign says whether s begins with a minus, and returns what follows it.
func cutSign(s string) (bool, string) {
	if s != "" && s[0] == '-' {
		return true, s[1:]
	}
	return false, s
}

// allDecimal says whether all bytes of s are digits.
func allDecimal(s string) bool {
	for i := range len(s) {
		if s[i] < '0' || s[i] > '9' {
			return false
		}
	}
	return true
}

// valueOf returns the number that digits are in decimal notation; it wraps around.
func valueOf(digits string) int {
	return fold([]byte(digits), 0, func(n int, digit byte) int {
		return 10*n + int(digit-'0')
	})
}
