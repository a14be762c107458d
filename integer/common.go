package integer

// order returns -1 if a is less than b, 1 if it is greater, and 0 if they are equal.
func order(a int, b int) int {
	if a < b {
		return -1
	}
	if a > b {
		return 1
	}
	return 0
}

// greatest returns the greatest number from least to most that fits. least fits, and so does whatever is between it and a number that fits.
func greatest(least int, most int, fits func(n int) bool) int {
	for least < most {
		middle := most - (most-least)/2
		if fits(middle) {
			least = middle
		} else {
			most = middle - 1
		}
	}
	return least
}

// fold returns the sum that the steps make of start and the elements of the list, one after the other.
func fold[Sum any, Element any](list []Element, start Sum, step func(sum Sum, element Element) Sum) Sum {
	sum := start
	for _, element := range list {
		sum = step(sum, element)
	}
	return sum
}
