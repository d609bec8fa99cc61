package parts

import (
	"errors"
	"iter"
	"slices"
	"strconv"
	"testing"

	"trefoil/api"
)

// walked goes through all, and through all of it again at each step, as far as the end-th step; it tells what came.
func walked[T any](t *testing.T, all iter.Seq[T], end int) []T {
	t.Helper()
	var l []T
	for x := range all {
		if len(l) == end {
			break
		}
		l = append(l, x)
		n := 0
		for range all {
			n++
		}
		if n < len(l) {
			t.Errorf("P8.1: gone through again: %d", n)
		}
	}
	return l
}

// counted gives numbers from 0 on, below n, and tells to how many it came.
func counted(n int, came *int) iter.Seq[int] {
	return func(yield func(int) bool) {
		for i := range n {
			if *came = i + 1; !yield(i) {
				return
			}
		}
	}
}

func TestMade(t *testing.T) {
	want := []string{"0", "1", "2", "3"}
	for end := range len(want) + 1 {
		came := 0
		if got := walked(t, made(counted(4, &came), strconv.Itoa), end); !slices.Equal(got, want[:end]) {
			t.Errorf("P8.1: left behind %d: %v", end, got)
		}
	}
	came := 0
	for range made(counted(4, &came), strconv.Itoa) {
		break
	}
	if came != 1 {
		t.Errorf("P8.1: left at the first one: %d came", came)
	}
}

// TestSpread: all that comes of each, also where none does of some; who leaves asks for nothing more.
func TestSpread(t *testing.T) {
	l := [][]string{nil, {"a", "b"}, nil, {"c"}, {"d", "e", "f"}, nil}
	want := []string{"a", "b", "c", "d", "e", "f"}
	asked := 0
	all := spread(slices.Values(l), func(x []string) iter.Seq[string] {
		asked++
		return slices.Values(x)
	})
	for end := range len(want) + 1 {
		if got := walked(t, all, end); !slices.Equal(got, want[:end]) {
			t.Errorf("P8.1: left behind %d: %v", end, got)
		}
	}
	for end, n := range []int{2, 2, 4, 5, 5, 5, 6} {
		asked = 0
		left := end
		for range all {
			if left == 0 {
				break
			}
			left--
		}
		if asked != n {
			t.Errorf("P8.1: left behind %d: asked of %d, not %d", end, asked, n)
		}
	}
}

// TestOr: something else only where there is none, and asked for only there.
func TestOr(t *testing.T) {
	for n := range 4 {
		asked, came := 0, 0
		all := or(counted(n, &came), func() int {
			asked++
			return 77
		})
		want := []int{0, 1, 2}[:n:n]
		if n == 0 {
			want = []int{77}
		}
		for end := range len(want) + 1 {
			if got := walked(t, all, end); !slices.Equal(got, want[:end]) {
				t.Errorf("P8.1: of %d, left behind %d: %v", n, end, got)
			}
		}
		if (asked > 0) != (n == 0) {
			t.Errorf("P8.1: of %d: something else was asked for %d times", n, asked)
		}
	}
}

// TestGathered: what comes of each, in order; at an error nothing, and nothing behind it is asked for.
func TestGathered(t *testing.T) {
	l := [][]int{{1, 2}, nil, {3}, {4, 5, 6}}
	for bad := range len(l) + 1 {
		asked := 0
		got, err := gathered(slices.Values(l), func(x []int) ([]int, error) {
			if asked++; asked == bad+1 {
				return x, api.ErrLarge
			}
			return x, nil
		})
		if bad == len(l) && (err != nil || !slices.Equal(got, []int{1, 2, 3, 4, 5, 6})) || bad < len(l) && (err != api.ErrLarge || got != nil || asked != bad+1) {
			t.Errorf("P8.2: wrong at %d: %v, %v, asked %d", bad, got, err, asked)
		}
	}
}

// TestSpots: each place, in order; left at any point, gone through again.
func TestSpots(t *testing.T) {
	v := api.Value{S: []string{"a", "b", "c"}, V: []api.Value{{N: 1}, {N: 2}, {N: 3}}}
	s := api.Schema{Kind: api.KMap, In: []api.Schema{{Kind: api.KMax}}}
	for end := range len(v.V) + 1 {
		for i, p := range walked(t, spots(s, v), end) {
			if p.held().N != uint64(i+1) || p.in().Kind != api.KMax {
				t.Errorf("P8.1: left behind %d: at %d %v", end, i, p.held())
			}
		}
	}
}

// TestWhole: numbers and last writers; left at the one there is.
func TestWhole(t *testing.T) {
	number := api.Schema{Kind: api.KMax}
	for end := range 2 {
		if got := walked(t, whole(number, api.Value{N: 7}), end); len(got) != end {
			t.Errorf("P8.1: left behind %d: %v", end, got)
		}
		if got := walked(t, whole(number, api.Value{}), end); len(got) != 0 {
			t.Errorf("P8.1: of nothing: %v", got)
		}
	}
}

// TestErrorGoesUp: what a layer below says of something wrong is told, wherever it lies, and nothing beside it.
func TestErrorGoesUp(t *testing.T) {
	or := api.Schema{Kind: api.KOr}
	s := api.Schema{Kind: api.KMap, In: []api.Schema{{Kind: api.KPair, In: []api.Schema{or, or}}}}
	entry := func(key string, n uint64) api.Value {
		return api.Value{S: []string{key}, V: []api.Value{{V: []api.Value{{N: 1}, {N: n}}}}}
	}
	for _, a := range []api.Value{{}, entry("a", 0), entry("b", 1)} {
		if d, err := beyond(s, a, entry("a", 2)); !errors.Is(err, api.ErrType) || len(d.S)+len(d.V) > 0 {
			t.Errorf("P8.2: %v, %v", d, err)
		}
		if l, err := lacking(s, a, entry("a", 2)); !errors.Is(err, api.ErrType) || len(l) > 0 {
			t.Errorf("P8.2: %v, %v", l, err)
		}
	}
}
