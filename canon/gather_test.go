package canon

import (
	"cmp"
	"iter"
	"slices"
	"strings"
	"testing"

	"trefoil/api"
	"trefoil/kit"
)

// A thing stands at a place; its name tells which of those there it is.
type thing struct {
	place int
	name  string
}

func byPlace(a, b thing) int { return cmp.Compare(a.place, b.place) }

// row answers things at these places, named in the order in which they stand.
func row(places []int) []thing {
	var l []thing
	for i, p := range places {
		l = append(l, thing{p, string(rune('a' + i))})
	}
	return l
}

// TestBeside: each of two lists that are as long with the other one's, as far as one goes, and again, also while one goes.
func TestBeside(t *testing.T) {
	for n := range 4 {
		a, b := []int{1, 2, 3}[:n], []string{"x", "y", "z"}[:n]
		all := beside(a, b)
		for end := range n + 1 {
			var first []int
			second := ""
			for x, y := range all {
				if len(first) == end {
					break
				}
				first, second = append(first, x), second+y
				if m, _ := made(all, func(int, string) (int, error) { return 0, nil }); len(m) != n {
					t.Errorf("P7.1: gone through again: %d of %d", len(m), n)
				}
			}
			if !slices.Equal(first, a[:end]) || second != strings.Join(b[:end], "") {
				t.Errorf("P7.1: left behind %d of %d: %v, %q", end, n, first, second)
			}
		}
	}
}

// TestMade: what comes of each; at an error nothing, and nothing behind it is asked for.
func TestMade(t *testing.T) {
	for bad := range 5 {
		asked := 0
		l, err := made(slices.All([]int{5, 6, 7, 8}), func(i, n int) (int, error) {
			if asked++; i == bad {
				return n, api.ErrLarge
			}
			return i * n, nil
		})
		if bad == 4 && (err != nil || !slices.Equal(l, []int{0, 6, 14, 24}) || asked != 4) || bad < 4 && (err != api.ErrLarge || l != nil || asked != bad+1) {
			t.Errorf("P7.1: wrong at %d: %v, %v, asked %d", bad, l, err, asked)
		}
	}
}

// TestGroups: of all lists of at most five places: each place once, rising, and those that stand there as they stood; left at any point, gone through again, also while one goes; the list is as it was.
func TestGroups(t *testing.T) {
	for _, places := range kit.Lists([]int{-1, 0, 3}, 5) {
		l := row(places)
		all := groups(l, byPlace)
		rising := slices.Compact(slices.Sorted(slices.Values(places)))
		for end := range len(rising) + 1 {
			seen := 0
			for group := range all {
				if seen == end {
					break
				}
				want := slices.DeleteFunc(row(places), func(x thing) bool { return x.place != rising[seen] })
				if !slices.Equal(group, want) {
					t.Fatalf("P7.1: of %v: %v, not %v", l, group, want)
				}
				if seen++; count(all) != len(rising) {
					t.Fatalf("P7.1: of %v: gone through again: %d", l, count(all))
				}
			}
			if seen != end || !slices.Equal(l, row(places)) {
				t.Fatalf("P7.1: left behind %d: %d, of %v", end, seen, l)
			}
		}
	}
}

func count[T any](all iter.Seq[T]) int {
	n := 0
	for range all {
		n++
	}
	return n
}

// joined writes the names of those at one place one behind the other, so that it tells in which order they came.
func joined(a, b thing) (thing, error) { return thing{a.place, a.name + b.name}, nil }

// TestGathered: at each place what all there are together, from the left; those that are nothing in the end are left out.
func TestGathered(t *testing.T) {
	for _, places := range kit.Lists([]int{-1, 0, 3}, 5) {
		var want []thing
		for _, p := range []int{-1, 0, 3} {
			name := ""
			for i, q := range places {
				if q == p {
					name += string(rune('a' + i))
				}
			}
			if len(name) > 1 {
				want = append(want, thing{p, name})
			}
		}
		got, err := gathered(row(places), byPlace, joined, func(x thing) bool { return len(x.name) < 2 })
		if err != nil || !slices.Equal(got, want) {
			t.Fatalf("P7.1: of %v: %v, %v, not %v", places, got, err, want)
		}
	}
}

// TestGatheredWithError: at an error, or of one too many, nothing; and no more is asked for than must be.
func TestGatheredWithError(t *testing.T) {
	never := func(thing) bool { return false }
	asked := 0
	refusing := func(a, b thing) (thing, error) {
		if asked++; asked == 3 {
			return a, api.ErrType
		}
		return a, nil
	}
	if l, err := gathered(row([]int{5, 5, 2, 2, 2, 5, 7, 7}), byPlace, refusing, never); err != api.ErrType || l != nil || asked != 3 {
		t.Errorf("P7.1: with an error: %v, %v, asked %d", l, err, asked)
	}
	for n := range 100 {
		var l []thing
		for i := range n {
			l = append(l, thing{n - i, ""}, thing{-i, "nothing"})
		}
		got, err := gathered(l, byPlace, joined, func(x thing) bool { return x.name != "" })
		if n <= api.MaxItems && (err != nil || len(got) != n) || n > api.MaxItems && (err != api.ErrLarge || got != nil) {
			t.Errorf("P7.1: of %d: %d, %v", n, len(got), err)
		}
	}
}
