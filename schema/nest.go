package schema

import "iter"

// nested gives t and all that is in it, each with its depth (t's is 1) and ahead of what is in it:
// who leaves at a wrong one, or at one that is too deep, never goes into it, however deep or wide it is.
func nested[T any](t T, in func(T) []T) iter.Seq2[int, T] {
	return func(yield func(int, T) bool) {
		descend(t, 1, in, yield)
	}
}

// descend tells whether to go on: false, once yield has left.
func descend[T any](t T, depth int, in func(T) []T, yield func(int, T) bool) bool {
	if !yield(depth, t) {
		return false
	}
	for _, next := range in(t) {
		if !descend(next, depth+1, in, yield) {
			return false
		}
	}
	return true
}

// renewed answers a list of its own, with each of l made new: lists that share memory in l don't in the answer.
func renewed[T any](l []T, renew func(T) T) []T {
	var own []T
	for _, t := range l {
		own = append(own, renew(t))
	}
	return own
}
