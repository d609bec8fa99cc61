package order

import (
	"errors"

	"trefoil/api"
)

// weighed tells whether b has as much as a, and a as much as b, whatever they are: what can be joined has an order, in which less is what joined is the other.
// It joins once for both, since in whatever order the same comes.
func weighed[T any](a, b T, join func(T, T) (T, error), same func(T, T) bool) (upTo, from bool, err error) {
	both, err := join(a, b)
	switch {
	case errors.Is(err, api.ErrLarge):
		return false, false, nil // each of them fits alone, so that neither is what they are together
	case err != nil:
		return false, false, err
	}
	return same(both, b), same(both, a), nil
}
