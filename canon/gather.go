package canon

import (
	"iter"
	"slices"

	"trefoil/api"
)

// beside gives what stands at the same places of two lists that are as long.
func beside[A, B any](a []A, b []B) iter.Seq2[A, B] {
	return func(yield func(A, B) bool) {
		for i, x := range a {
			if !yield(x, b[i]) {
				return
			}
		}
	}
}

// made answers what comes of each two of all; it ends at the first error.
func made[A, B, T any](all iter.Seq2[A, B], from func(A, B) (T, error)) ([]T, error) {
	var l []T
	for a, b := range all {
		t, err := from(a, b)
		if err != nil {
			return nil, err
		}
		l = append(l, t)
	}
	return l, nil
}

// groups gives, rising, all of l that stand at one place, in the order in which they stand in l.
func groups[T any](l []T, by func(T, T) int) iter.Seq[[]T] {
	return func(yield func([]T) bool) {
		left := slices.Clone(l) // l is somebody else's
		slices.SortStableFunc(left, by)
		for len(left) > 0 {
			n := 1
			for n < len(left) && by(left[0], left[n]) == 0 {
				n++
			}
			if !yield(left[:n]) {
				return
			}
			left = left[n:]
		}
	}
}

// gathered puts l in order: of each place one, what all that stand there are together, without what is nothing. An api.ErrLarge of more than api.MaxItems.
func gathered[T any](l []T, by func(T, T) int, both func(T, T) (T, error), nothing func(T) bool) ([]T, error) {
	var all []T
	for group := range groups(l, by) {
		t, err := together(group, both)
		switch {
		case err != nil:
			return nil, err
		case nothing(t):
			continue
		case len(all) == api.MaxItems:
			return nil, api.ErrLarge
		}
		all = append(all, t)
	}
	return all, nil
}

// together takes a list that isn't empty, from the left.
func together[T any](l []T, both func(T, T) (T, error)) (T, error) {
	all := l[0]
	for _, t := range l[1:] {
		next, err := both(all, t)
		if err != nil {
			return next, err
		}
		all = next
	}
	return all, nil
}
