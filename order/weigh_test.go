package order

import (
	"errors"
	"testing"

	"trefoil/api"
)

// A wrapped error is another one, and has something to say of it.
type wrapped struct{ error }

func (w wrapped) Unwrap() error { return w.error }

func equal(a, b int) bool { return a == b }

// TestWeighed: of any two of what can be joined, here numbers by their bits, less is what joined is the other.
func TestWeighed(t *testing.T) {
	join := func(a, b int) (int, error) { return a | b, nil }
	for a := range 16 {
		for b := range 16 {
			upTo, from, err := weighed(a, b, join, equal)
			if upTo != (a&^b == 0) || from != (b&^a == 0) || err != nil {
				t.Errorf("P6.1: bits %b, %b: %v, %v, %v", a, b, upTo, from, err)
			}
		}
	}
}

// TestWeighedWithError: what is too large together is neither less nor more, in whatever the error is wrapped; another error is told as it is, and nothing beside it.
func TestWeighedWithError(t *testing.T) {
	for _, c := range []struct{ told, want error }{
		{api.ErrLarge, nil}, {wrapped{api.ErrLarge}, nil}, {api.ErrType, api.ErrType}, {wrapped{api.ErrType}, wrapped{api.ErrType}}, {errors.ErrUnsupported, errors.ErrUnsupported},
	} {
		join := func(a, b int) (int, error) { return b, c.told }
		if upTo, from, err := weighed(1, 1, join, equal); upTo || from || err != c.want {
			t.Errorf("P6.1: of %v: %v, %v, %v", c.told, upTo, from, err)
		}
	}
}
