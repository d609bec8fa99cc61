package clock

import "slices"

// rises tells whether each of l is above the one ahead of it.
func rises[T any](l []T, by func(T, T) int) bool {
	for i := 1; i < len(l); i++ {
		if by(l[i-1], l[i]) >= 0 {
			return false
		}
	}
	return true
}

// found answers the one of l, a list that rises, that stands where t would; zero, if there is none.
func found[T any](l []T, t T, by func(T, T) int) T {
	var none T
	if at, ok := slices.BinarySearchFunc(l, t, by); ok {
		return l[at]
	}
	return none
}

// merged puts two lists that rise into one of its own; of two that stand at one place, it takes what both makes of them.
// Each step leaves one of a or of b behind, so that it ends whatever the lists are.
func merged[T any](a, b []T, by func(T, T) int, both func(T, T) T) []T {
	all := make([]T, 0, len(a)+len(b))
	for len(a) > 0 && len(b) > 0 {
		switch order := by(a[0], b[0]); {
		case order < 0:
			all, a = append(all, a[0]), a[1:]
		case order > 0:
			all, b = append(all, b[0]), b[1:]
		default:
			all, a, b = append(all, both(a[0], b[0])), a[1:], b[1:]
		}
	}
	return append(append(all, a...), b...)
}
