package shop

// within reports whether a number is from low to high.
func within(x, low, high int) bool { return low <= x && x <= high }

// allWithin reports whether all numbers are from low to high.
func allWithin(l []int, low, high int) bool {
	for _, x := range l {
		if !within(x, low, high) {
			return false
		}
	}
	return true
}

// sum returns the numbers of several things, together.
func sum[T any](of func(T) int, several ...T) int {
	total := 0
	for _, x := range several {
		total += of(x)
	}
	return total
}
