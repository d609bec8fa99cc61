package parts

import "iter"

// made gives what comes of each of all.
func made[A, B any](all iter.Seq[A], from func(A) B) iter.Seq[B] {
	return func(yield func(B) bool) {
		for a := range all {
			if !yield(from(a)) {
				return
			}
		}
	}
}

// spread gives all that comes of the first one, then of the next one, and so on.
func spread[A, B any](all iter.Seq[A], from func(A) iter.Seq[B]) iter.Seq[B] {
	return func(yield func(B) bool) {
		for a := range all {
			for b := range from(a) {
				if !yield(b) {
					return
				}
			}
		}
	}
}

// or gives all, or, if there is none, what other makes.
func or[T any](all iter.Seq[T], other func() T) iter.Seq[T] {
	return func(yield func(T) bool) {
		none := true
		for t := range all {
			none = false
			if !yield(t) {
				return
			}
		}
		if none {
			yield(other())
		}
	}
}

// gathered answers all that comes of each, in order; it ends at the first error.
func gathered[A, B any](all iter.Seq[A], from func(A) ([]B, error)) ([]B, error) {
	var l []B
	for a := range all {
		some, err := from(a)
		if err != nil {
			return nil, err
		}
		l = append(l, some...)
	}
	return l, nil
}
