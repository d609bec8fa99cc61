package value

import (
	"fmt"
	"iter"
	"slices"
	"testing"
)

// A tree is something that nests and is no value: the walk is to know nothing of what it walks over.
type tree struct {
	name string
	in   []tree
}

func branches(t tree) iter.Seq[tree] { return slices.Values(t.in) }

func grown() tree {
	return tree{"a", []tree{{"b", []tree{{"c", nil}, {"d", []tree{{"e", nil}}}}}, {"f", nil}, {"g", []tree{{"h", nil}}}}}
}

func TestNested(t *testing.T) {
	const names = "abcdefgh"
	for n := 1; n <= len(names); n++ {
		got := ""
		for p := range nested(grown(), branches) {
			if got += p.name; len(got) == n {
				break
			}
		}
		if got != names[:n] {
			t.Errorf("P4.1: left behind %d: %q", n, got)
		}
	}
}

// What the walk has left it doesn't look into: neither what is in the one at which it left nor what stands behind that.
func TestNestedLeft(t *testing.T) {
	asked := ""
	in := func(p tree) iter.Seq[tree] {
		asked += p.name
		return branches(p)
	}
	if every(nested(grown(), in), func(p tree) bool { return p.name != "d" }) || asked != "abc" {
		t.Errorf("P4.1: left at d, asked what is in %q", asked)
	}
}

func TestNestedAgain(t *testing.T) {
	walk := nested(tree{"a", []tree{{"b", nil}, {"c", nil}}}, branches)
	names := ""
	for p := range walk {
		names += p.name
		for q := range walk {
			names += q.name
		}
	}
	if names != "aabcbabccabc" {
		t.Errorf("P4.1: a walk gone through while it is gone through: %q", names)
	}
}

func TestEvery(t *testing.T) {
	asked := 0
	small := func(n int) bool {
		asked++
		return n < 3
	}
	if !every(slices.Values([]int{1, 2, 0}), small) || !every(slices.Values([]int{}), small) || asked != 3 {
		t.Errorf("P4.1: every of small ones, behind %d", asked)
	}
	if every(slices.Values([]int{1, 3, 0, 4}), small) || asked != 5 {
		t.Errorf("P4.1: every of some that aren't small, behind %d", asked)
	}
}

func TestTwos(t *testing.T) {
	for _, c := range []struct {
		l    []string
		want []string
	}{
		{nil, nil},
		{[]string{"a"}, nil},
		{[]string{"a", "b"}, []string{"ab"}},
		{[]string{"c", "a", "b"}, []string{"ca", "cb", "ab"}},
		{[]string{"a", "a"}, []string{"aa"}},
		{[]string{"a", "b", "c", "d"}, []string{"ab", "ac", "bc", "ad", "bd", "cd"}},
	} {
		for n := range len(c.want) + 1 {
			var got []string
			for a, b := range twos(c.l) {
				if got = append(got, a+b); len(got) == n {
					break
				}
			}
			if n == 0 {
				n = len(c.want)
			}
			if fmt.Sprint(got) != fmt.Sprint(c.want[:n]) {
				t.Errorf("P4.1: %d of any two of %q: %q", n, c.l, got)
			}
		}
	}
}
