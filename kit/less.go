package kit

import (
	"cmp"
	"slices"
	"strings"

	"trefoil/api"
)

// Leq tells whether b has as much as a, values of s, by what each Kind's join does, with no call of a layer: nothing is joined, so that nothing is too large.
func Leq(s api.Schema, a, b api.Value) bool {
	switch s.Kind {
	case api.KMax, api.KOr:
		return a.N <= b.N
	case api.KSet:
		return all(len(a.S), func(i int) bool { return slices.Contains(b.S, a.S[i]) })
	case api.KMap:
		return all(len(a.S), func(i int) bool {
			k := slices.Index(b.S, a.S[i])
			return k >= 0 && Leq(s.In[0], a.V[i], b.V[k])
		})
	case api.KPair:
		return Leq(s.In[0], a.V[0], b.V[0]) && Leq(s.In[1], a.V[1], b.V[1])
	case api.KLast:
		return cmp.Or(cmp.Compare(a.N, b.N), cmp.Compare(a.M, b.M), strings.Compare(strings.Join(a.S, ""), strings.Join(b.S, ""))) <= 0
	case api.KClock:
		return UpTo(slices.Concat(a.C...), slices.Concat(b.C...))
	}
	return all(len(a.C), func(i int) bool { return heard(s.In[0], a.C[i], a.V[i], b) })
}

// heard tells whether a cause has as much as this version of another one: the version itself, with as much in it, or one that has seen it.
func heard(s api.Schema, c []api.Tick, v api.Value, b api.Value) bool {
	for i, o := range b.C {
		if slices.Equal(c, o) && Leq(s, v, b.V[i]) || !slices.Equal(c, o) && UpTo(c, o) {
			return true
		}
	}
	return false
}

// all tells whether it is so of each number below n.
func all(n int, is func(int) bool) bool {
	for i := range n {
		if !is(i) {
			return false
		}
	}
	return true
}
