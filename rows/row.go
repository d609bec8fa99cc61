package rows

import (
	"cmp"
	"iter"
	"slices"
)

// A row is a set: its elements, rising. Its methods also end, without a panic, where it doesn't rise.
type row[T cmp.Ordered] []T

// A side says in which of two rows an element is.
type side int

const (
	onlyFirst side = iota
	onlySecond
	inBoth
)

// sorted works on a copy, since the list belongs to the caller.
func sorted[T cmp.Ordered](l []T) row[T] {
	own := slices.Clone(l)
	slices.Sort(own)
	return slices.Compact(own)
}

func (r row[T]) rises() bool {
	for i := 1; i < len(r); i++ {
		if r[i] <= r[i-1] {
			return false
		}
	}
	return true
}

func (r row[T]) has(e T) bool {
	_, found := slices.BinarySearch(r, e)
	return found
}

// beside goes through r and o together, rising, and gives each element once.
// Each step leaves an element of r or of o behind, so that it ends whatever the rows are.
func (r row[T]) beside(o row[T]) iter.Seq2[T, side] {
	return func(yield func(T, side) bool) {
		a, b := r, o // r and o stay whole, so that one may go through them again
		for len(a) > 0 || len(b) > 0 {
			e, at := lowest(a, b)
			if at != onlySecond {
				a = a[1:]
			}
			if at != onlyFirst {
				b = b[1:]
			}
			if !yield(e, at) {
				return
			}
		}
	}
}

// lowest takes two rows of which at most one is empty.
func lowest[T cmp.Ordered](a, b row[T]) (T, side) {
	switch {
	case len(b) == 0 || len(a) > 0 && a[0] < b[0]:
		return a[0], onlyFirst
	case len(a) == 0 || b[0] < a[0]:
		return b[0], onlySecond
	}
	return a[0], inBoth
}

func (r row[T]) with(o row[T]) row[T] {
	all := make(row[T], 0, len(r)+len(o))
	for e := range r.beside(o) {
		all = append(all, e)
	}
	return all
}

func (r row[T]) without(o row[T]) row[T] {
	left := make(row[T], 0, len(r))
	for e, at := range r.beside(o) {
		if at == onlyFirst {
			left = append(left, e)
		}
	}
	return left
}

func (r row[T]) within(o row[T]) bool {
	for _, at := range r.beside(o) {
		if at == onlyFirst {
			return false
		}
	}
	return true
}
