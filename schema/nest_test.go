package schema

import (
	"slices"
	"testing"
)

// A tree is something that nests and is no schema: the walk is to know nothing of what it walks over.
type tree struct {
	name string
	in   []tree
}

func branches(t tree) []tree { return t.in }

func leaf(name string) tree { return tree{name: name} }

// steps writes down the first n steps of the walk over t: its depth, and who was there.
func steps(t tree, n int) (depths []int, names string) {
	for depth, p := range nested(t, branches) {
		depths, names = append(depths, depth), names+p.name
		if len(depths) == n {
			break
		}
	}
	return depths, names
}

func TestNested(t *testing.T) {
	all := tree{"a", []tree{
		{"b", []tree{leaf("c"), {"d", []tree{leaf("e")}}}},
		leaf("f"),
		{"g", []tree{leaf("h")}},
	}}
	const names = "abcdefgh"
	want := []int{1, 2, 3, 3, 4, 2, 2, 3}
	for n := 1; n <= len(names); n++ {
		if d, s := steps(all, n); s != names[:n] || !slices.Equal(d, want[:n]) {
			t.Errorf("P2.1: %d steps: %q, %v", n, s, d)
		}
	}
	if d, s := steps(all, 100); s != names || !slices.Equal(d, want) {
		t.Errorf("P2.1: the whole walk: %q, %v", s, d)
	}
	if d, s := steps(leaf("a"), 100); s != "a" || !slices.Equal(d, []int{1}) {
		t.Errorf("P2.1: the walk over a leaf: %q, %v", s, d)
	}
}

// What the walk has left it doesn't look into: neither what is in the one at which it left nor what stands behind that.
func TestNestedLeft(t *testing.T) {
	var asked string
	in := func(p tree) []tree {
		asked += p.name
		return p.in
	}
	all := tree{"a", []tree{{"b", []tree{leaf("c")}}, {"d", []tree{leaf("e")}}, leaf("f")}}
	for _, p := range nested(all, in) {
		if p.name == "d" {
			break
		}
	}
	if asked != "abc" {
		t.Errorf("P2.1: left at d, asked what is in %q", asked)
	}
}

func TestNestedAgain(t *testing.T) {
	walk := nested(tree{"a", []tree{leaf("b"), leaf("c")}}, branches)
	var names string
	for _, p := range walk {
		names += p.name
		for _, q := range walk {
			names += q.name
		}
	}
	if names != "aabcbabccabc" {
		t.Errorf("P2.1: a walk gone through while it is gone through: %q", names)
	}
}

func TestRenewed(t *testing.T) {
	was := []int{3, 1, 2, 9, 9}
	l := was[:3]
	got := renewed(l, func(n int) int { return n + 1 })
	if !slices.Equal(got, []int{4, 2, 3}) || !slices.Equal(was, []int{3, 1, 2, 9, 9}) {
		t.Errorf("P2.2: renewed %v, and left %v", got, was)
	}
	got = append(got[:0], 7, 7, 7)
	if !slices.Equal(was, []int{3, 1, 2, 9, 9}) {
		t.Errorf("P2.2: %v shares memory with %v", got, was)
	}
	if n := renewed(l[:0], func(n int) int { return n }); len(n) != 0 {
		t.Errorf("P2.2: nothing renewed: %v", n)
	}
}
