package join_test

import (
	"cmp"
	"maps"
	"slices"
	"strings"

	"trefoil/api"
	"trefoil/kit"
	"trefoil/value"
)

var none api.Value

// Short names, so that tables of values read as such.
var (
	of     = kit.Of
	num    = kit.Num
	set    = kit.Set
	last   = kit.Last
	pair   = kit.Pair
	keyed  = kit.Keyed
	ticks  = kit.Ticks
	clocks = kit.Clocks
	at     = kit.At
	cause  = kit.Cause

	refused = kit.Refused
)

// together says what Join is to answer of values of s, by the document's words, one by one, with no call of layers 1, 3 and 5; however large it is.
func together(s api.Schema, a, b api.Value) api.Value {
	switch s.Kind {
	case api.KMax, api.KOr:
		return num(max(a.N, b.N))
	case api.KSet:
		return set(slices.Compact(slices.Sorted(slices.Values(slices.Concat(a.S, b.S))))...)
	case api.KMap:
		return mapTogether(s.In[0], a, b)
	case api.KPair:
		return pair(together(s.In[0], a.V[0], b.V[0]), together(s.In[1], a.V[1], b.V[1]))
	case api.KLast:
		l := []api.Value{a, b}
		slices.SortFunc(l, func(a, b api.Value) int {
			return cmp.Or(cmp.Compare(a.N, b.N), cmp.Compare(a.M, b.M), cmp.Compare(strings.Join(a.S, ""), strings.Join(b.S, "")))
		})
		return l[1]
	case api.KClock:
		return clockTogether(a, b)
	}
	return causeTogether(s.In[0], a, b)
}

func mapTogether(in api.Schema, a, b api.Value) api.Value {
	all := map[string][]api.Value{}
	for _, v := range []api.Value{a, b} {
		for i, k := range v.S {
			all[k] = append(all[k], v.V[i])
		}
	}
	var v api.Value
	for _, k := range slices.Sorted(maps.Keys(all)) {
		l := append(all[k], value.Bottom(in))
		v.S, v.V = append(v.S, k), append(v.V, together(in, l[0], l[1]))
	}
	return v
}

func clockTogether(a, b api.Value) api.Value {
	all := map[int]uint64{}
	for _, c := range slices.Concat(a.C, b.C) {
		for _, t := range c {
			all[t.Who] = max(all[t.Who], t.N)
		}
	}
	if len(all) == 0 {
		return none
	}
	var c []api.Tick
	for _, who := range slices.Sorted(maps.Keys(all)) {
		c = append(c, api.Tick{Who: who, N: all[who]})
	}
	return clocks(c)
}

func causeTogether(in api.Schema, a, b api.Value) api.Value {
	var l []kit.Version
	for _, v := range []api.Value{a, b} {
		for i, c := range v.C {
			one := func(o kit.Version) bool { return slices.Equal(o.Clock, c) }
			if k := slices.IndexFunc(l, one); k >= 0 {
				l[k].Value = together(in, l[k].Value, v.V[i])
			} else {
				l = append(l, at(c, v.V[i]))
			}
		}
	}
	var kept []kit.Version
	for _, x := range l {
		seen := func(o kit.Version) bool { return kit.UpTo(x.Clock, o.Clock) && !kit.UpTo(o.Clock, x.Clock) }
		if !slices.ContainsFunc(l, seen) {
			kept = append(kept, x)
		}
	}
	slices.SortFunc(kept, func(a, b kit.Version) int { return slices.Compare(kit.Row(a.Clock), kit.Row(b.Clock)) })
	return cause(kept...)
}
