package join

import (
	"iter"

	"trefoil/api"
)

// A line is values that stand at marks that rise: a map's at its keys, a cause's at the clocks of its versions.
type line[M any] struct {
	marks  []M
	values []api.Value
}

// A spot is a mark of one of two lines, and what they have there; zero, where one has no such mark.
type spot[M any] struct {
	mark M
	a, b api.Value
}

// beside goes through l and o together, rising, and gives each mark once.
func (l line[M]) beside(o line[M], by func(M, M) int) iter.Seq[spot[M]] {
	return func(yield func(spot[M]) bool) {
		a, b := l, o // l and o stay whole, so that one may go through them again
		for len(a.marks) > 0 || len(b.marks) > 0 {
			var next spot[M]
			order := lower(a.marks, b.marks, by)
			if order <= 0 {
				next.mark, next.a, a = a.split()
			}
			if order >= 0 {
				next.mark, next.b, b = b.split()
			}
			if !yield(next) {
				return
			}
		}
	}
}

// lower tells which of two lists, of which at most one is empty, begins lower: below 0 the first one, above 0 the second one.
func lower[M any](a, b []M, by func(M, M) int) int {
	switch {
	case len(b) == 0:
		return -1
	case len(a) == 0:
		return 1
	}
	return by(a[0], b[0])
}

// split takes the first one off a line that has one.
func (l line[M]) split() (M, api.Value, line[M]) {
	return l.marks[0], l.values[0], line[M]{l.marks[1:], l.values[1:]}
}

// without leaves out those that are as asked.
func without[T any](all iter.Seq[T], is func(T) bool) iter.Seq[T] {
	return func(yield func(T) bool) {
		for t := range all {
			if !is(t) && !yield(t) {
				return
			}
		}
	}
}

// together joins what stands at each mark; it leaves at the first mark that is one too many.
func together[M any](in api.Schema, spots iter.Seq[spot[M]]) (line[M], error) {
	var all line[M]
	for s := range spots {
		if len(all.marks) == api.MaxItems {
			return line[M]{}, api.ErrLarge
		}
		v, err := join(in, s.a, s.b)
		if err != nil {
			return line[M]{}, err
		}
		all.marks, all.values = append(all.marks, s.mark), append(all.values, v)
	}
	return all, nil
}
