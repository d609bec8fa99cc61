package value

import "iter"

// nested gives t and all that is in it, each ahead of what is in it:
// who leaves at a wrong one never goes into it, however deep or wide it is.
func nested[T any](t T, in func(T) iter.Seq[T]) iter.Seq[T] {
	return func(yield func(T) bool) {
		goInto(t, in, yield)
	}
}

// goInto tells whether to go on: false, once yield has left.
func goInto[T any](t T, in func(T) iter.Seq[T], yield func(T) bool) bool {
	if !yield(t) {
		return false
	}
	for next := range in(t) {
		if !goInto(next, in, yield) {
			return false
		}
	}
	return true
}

// every leaves the walk at the first one that is not as asked.
func every[T any](all iter.Seq[T], is func(T) bool) bool {
	for t := range all {
		if !is(t) {
			return false
		}
	}
	return true
}

// twos gives any two of l, the one that stands ahead first.
func twos[T any](l []T) iter.Seq2[T, T] {
	return func(yield func(T, T) bool) {
		for i, b := range l {
			for _, a := range l[:i] {
				if !yield(a, b) {
					return
				}
			}
		}
	}
}
