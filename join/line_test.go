package join

import (
	"cmp"
	"slices"
	"testing"

	"trefoil/api"
)

// lineOf makes a line of these marks, each with a value that tells it.
func lineOf(side uint64, marks ...int) line[int] {
	var l line[int]
	for _, m := range marks {
		l.marks, l.values = append(l.marks, m), append(l.values, api.Value{N: uint64(m), M: side})
	}
	return l
}

// below answers the numbers of bits, rising.
func below(bits int) []int {
	var l []int
	for i := range 4 {
		if bits>>i&1 == 1 {
			l = append(l, i+1)
		}
	}
	return l
}

// TestBeside: any two lines of four marks are gone through, rising, each mark once, with what both have there.
func TestBeside(t *testing.T) {
	for x := range 16 {
		for y := range 16 {
			spots := slices.Collect(lineOf(1, below(x)...).beside(lineOf(2, below(y)...), cmp.Compare))
			var marks []int
			for _, s := range spots {
				marks = append(marks, s.mark)
				for side, v := range []api.Value{s.a, s.b} {
					has := []int{x, y}[side]>>(s.mark-1)&1 == 1
					if has && (v.N != uint64(s.mark) || v.M != uint64(side+1)) || !has && (v.N != 0 || v.M != 0) {
						t.Errorf("P5.1: %v beside %v: at %d: %v", below(x), below(y), s.mark, v)
					}
				}
			}
			if !slices.Equal(marks, below(x|y)) {
				t.Errorf("P5.1: %v beside %v: %v", below(x), below(y), marks)
			}
		}
	}
}

// TestLeft: a walk may be left at any point, and gone through again, also while it is being gone through.
func TestLeft(t *testing.T) {
	all := without(lineOf(1, 1, 2, 5).beside(lineOf(2, 2, 3, 4), cmp.Compare), func(s spot[int]) bool { return s.mark == 3 })
	want := []int{1, 2, 4, 5}
	for end := range len(want) + 1 {
		var got []int
		for s := range all {
			if len(got) == end {
				break
			}
			got = append(got, s.mark)
			inner := 0
			for range all {
				inner++
			}
			if inner != len(want) {
				t.Errorf("P5.1: gone through again: %d", inner)
			}
		}
		if !slices.Equal(got, want[:end]) {
			t.Errorf("P5.1: left behind %d: %v", end, got)
		}
	}
}
