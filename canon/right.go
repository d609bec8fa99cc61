package canon

import (
	"iter"
	"slices"

	"trefoil/api"
	"trefoil/clock"
	"trefoil/value"
)

// right looks at v all the way in, as deep as s is, ahead of anything that is put: what is wrong is told also where something else is too large.
func right(s api.Schema, v api.Value) bool {
	if !shaped(s, v) {
		return false
	}
	for in, x := range inside(s, v) {
		if !right(in, x) {
			return false
		}
	}
	return true
}

// inside gives each V with its schema, of one that is shaped. A map and a cause have one In, for all of their V; a pair has one In each.
func inside(s api.Schema, v api.Value) iter.Seq2[api.Schema, api.Value] {
	return func(yield func(api.Schema, api.Value) bool) {
		for i, x := range v.V {
			if !yield(s.In[min(i, len(s.In)-1)], x) {
				return
			}
		}
	}
}

// shaped looks at v alone, not at what is in it: it has just the parts that its Kind has, in whatever order. Numbers and last writers have no rows, so that they are values already, or wrong.
func shaped(s api.Schema, v api.Value) bool {
	rest := v
	switch s.Kind {
	case api.KSet:
		rest.S = nil
		return blank(rest) && short(v.S)
	case api.KMap:
		rest.S, rest.V = nil, nil
		return blank(rest) && short(v.S) && len(v.S) == len(v.V)
	case api.KPair:
		rest.V = nil
		return blank(rest) && len(v.V) == 2
	case api.KClock:
		rest.C = nil
		return blank(rest) && known(v.C) && len(v.C) <= 1
	case api.KCause:
		rest.C, rest.V = nil, nil
		return blank(rest) && known(v.C) && len(v.C) == len(v.V)
	}
	return value.Is(s, v)
}

func blank(v api.Value) bool { return value.Same(v, api.Value{}) }

func short(l []string) bool { return !slices.ContainsFunc(l, long) }

func long(s string) bool { return len(s) > api.MaxText }

func known(l [][]api.Tick) bool { return !slices.ContainsFunc(l, unknown) }

func unknown(c []api.Tick) bool { return slices.ContainsFunc(c, nobody) }

// nobody tells whether no clock may name t's actor, whatever its N is.
func nobody(t api.Tick) bool { return !clock.Is([]api.Tick{{Who: t.Who, N: 1}}) }
