package rows

import (
	"slices"
	"testing"
)

// TestBesideIsLeft: the walk may be left at any point, and gone through again, also while it is being gone through.
func TestBesideIsLeft(t *testing.T) {
	a, b := row[string]{"a", "c", "d", "f"}, row[string]{"b", "c", "e", "g", "h"}
	both := []string{"a", "b", "c", "d", "e", "f", "g", "h"}
	walk := a.beside(b)
	for n := range both {
		var got []string
		for e := range walk {
			got = append(got, e)
			inner := 0
			for range walk {
				inner++
			}
			if inner != len(both) {
				t.Fatalf("P1.2: within a walk: %d", inner)
			}
			if len(got) > n {
				break
			}
		}
		if !slices.Equal(got, both[:n+1]) {
			t.Errorf("P1.2: left behind %d: %q", n, got)
		}
	}
}

func TestBesideTellsSides(t *testing.T) {
	var got []side
	for _, at := range (row[string]{"a", "c"}).beside(row[string]{"", "c", "d"}) {
		got = append(got, at)
	}
	if !slices.Equal(got, []side{onlySecond, onlyFirst, inBoth, onlySecond}) {
		t.Errorf("P1.2: sides: %v", got)
	}
}
