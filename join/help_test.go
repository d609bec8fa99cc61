package join_test

import (
	"cmp"
	"maps"
	"slices"
	"strings"

	"trefoil/api"
	"trefoil/kit"
	"trefoil/value"
)

var none api.Value

// Short names, so that tables of values read as such.
var (
	of     = kit.Of
	num    = kit.Num
	set    = kit.Set
	last   = kit.Last
	pair   = kit.Pair
	keyed  = kit.Keyed
	ticks  = kit.Ticks
	clocks = kit.Clocks
	at     = kit.At
	cause  = kit.Cause
)

// together says what Join is to answer of values of s, by the document's words, one by one, with no call of layers 1, 3 and 5; however large it is.
func together(s api.Schema, a, b api.Value) api.Value {
	switch s.Kind {
	case api.KMax, api.KOr:
		return num(max(a.N, b.N))
	case api.KSet:
		return set(slices.Compact(slices.Sorted(slices.Values(slices.Concat(a.S, b.S))))...)
	case api.KMap:
		return mapTogether(s.In[0], a, b)
	case api.KPair:
		return pair(together(s.In[0], a.V[0], b.V[0]), together(s.In[1], a.V[1], b.V[1]))
	case api.KLast:
		l := []api.Value{a, b}
		slices.SortFunc(l, func(a, b api.Value) int {
			return cmp.Or(cmp.Compare(a.N, b.N), cmp.Compare(a.M, b.M), cmp.Compare(strings.Join(a.S, ""), strings.Join(b.S, "")))
		})
		return l[1]
	case api.KClock:
		return clockTogether(a, b)
	}
	return causeTogether(s.In[0], a, b)
}

func mapTogether(in api.Schema, a, b api.Value) api.Value {
	all := map[string][]api.Value{}
	for _, v := range []api.Value{a, b} {
		for i, k := range v.S {
			all[k] = append(all[k], v.V[i])
		}
	}
	var v api.Value
	for _, k := range slices.Sorted(maps.Keys(all)) {
		l := append(all[k], value.Bottom(in))
		v.S, v.V = append(v.S, k), append(v.V, together(in, l[0], l[1]))
	}
	return v
}

func clockTogether(a, b api.Value) api.Value {
	all := map[int]uint64{}
	for _, c := range slices.Concat(a.C, b.C) {
		for _, t := range c {
			all[t.Who] = max(all[t.Who], t.N)
		}
	}
	if len(all) == 0 {
		return none
	}
	var c []api.Tick
	for _, who := range slices.Sorted(maps.Keys(all)) {
		c = append(c, api.Tick{Who: who, N: all[who]})
	}
	return clocks(c)
}

func causeTogether(in api.Schema, a, b api.Value) api.Value {
	var l []kit.Version
	for _, v := range []api.Value{a, b} {
		for i, c := range v.C {
			one := func(o kit.Version) bool { return slices.Equal(o.Clock, c) }
			if k := slices.IndexFunc(l, one); k >= 0 {
				l[k].Value = together(in, l[k].Value, v.V[i])
			} else {
				l = append(l, at(c, v.V[i]))
			}
		}
	}
	var kept []kit.Version
	for _, x := range l {
		seen := func(o kit.Version) bool { return kit.UpTo(x.Clock, o.Clock) && !kit.UpTo(o.Clock, x.Clock) }
		if !slices.ContainsFunc(l, seen) {
			kept = append(kept, x)
		}
	}
	slices.SortFunc(kept, func(a, b kit.Version) int { return slices.Compare(kit.Row(a.Clock), kit.Row(b.Clock)) })
	return cause(kept...)
}

// large tells whether v, or a part of it, has more than there may be.
func large(v api.Value) bool {
	long := func(c []api.Tick) bool { return len(c) > api.MaxItems }
	return max(len(v.S), len(v.C), len(v.V)) > api.MaxItems || slices.ContainsFunc(v.C, long) || slices.ContainsFunc(v.V, large)
}

// some answers at most n of l, from all over it, its first one among them.
func some[T any](l []T, n int) []T {
	if len(l) <= n {
		return l
	}
	var out []T
	for i := range n {
		out = append(out, l[i*len(l)/n])
	}
	return out
}

// few answers at most n values of s, the first of them nothing: of the Kinds that have no value in them all small ones.
func few(s api.Schema, n int) []api.Value {
	var l []api.Value
	switch s.Kind {
	case api.KMax:
		l = []api.Value{none, num(1), num(2), num(1 << 63), num(1<<64 - 1)}
	case api.KOr:
		l = []api.Value{none, num(1)}
	case api.KSet:
		for _, x := range kit.Lists([]string{"", "a", "ab", "b"}, 4) {
			l = append(l, set(x...))
		}
	case api.KLast:
		l = fewLasts()
	case api.KClock:
		l = append(l, none)
		for _, c := range fewClocks() {
			l = append(l, clocks(c))
		}
	case api.KPair:
		for _, a := range few(s.In[0], 6) {
			for _, b := range few(s.In[1], 6) {
				l = append(l, pair(a, b))
			}
		}
	case api.KMap:
		l = fewMaps(few(s.In[0], 4))
	case api.KCause:
		l = fewCauses(few(s.In[0], 3))
	}
	return some(slices.DeleteFunc(l, func(v api.Value) bool { return !value.Is(s, v) }), n)
}

func fewLasts() []api.Value {
	l := []api.Value{none}
	for _, n := range []uint64{0, 1, 1<<64 - 1} {
		for m := range uint64(3) {
			for _, s := range []string{"", "a", "b", "ab"} {
				l = append(l, last(n, m, s))
			}
		}
	}
	return l
}

// fewClocks gives all clocks of three actors with N of 1 and 2, the empty one among them.
func fewClocks() [][]api.Tick {
	var l [][]api.Tick
	for n := range 27 {
		var c []api.Tick
		for who, x := range []int{n % 3, n / 3 % 3, n / 9} {
			if x > 0 {
				c = append(c, api.Tick{Who: 9 * who, N: uint64(x)})
			}
		}
		l = append(l, c)
	}
	return l
}

func fewMaps(in []api.Value) []api.Value {
	var from []api.Entry
	for _, k := range []string{"", "a", "b"} {
		for _, v := range in {
			from = append(from, api.Entry{Key: k, Value: v})
		}
	}
	var l []api.Value
	for _, x := range kit.Lists(from, 3) {
		var v api.Value
		for _, e := range x {
			v.S, v.V = append(v.S, e.Key), append(v.V, e.Value)
		}
		l = append(l, v)
	}
	return l
}

func fewCauses(in []api.Value) []api.Value {
	var from []kit.Version
	for i, c := range some(fewClocks(), 9) {
		from = append(from, at(c, in[i%len(in)]), at(c, in[(i+1)%len(in)]))
	}
	var l []api.Value
	for _, x := range kit.Lists(from, 3) {
		l = append(l, cause(x...))
	}
	return l
}

// schemas has one of each Kind, and each Kind that nests around others, some of them around themselves.
func schemas() []api.Schema {
	var l []api.Schema
	for _, c := range kit.Samples() {
		l = append(l, c.Schema)
	}
	ticking := of(api.KClock)
	return append(l,
		of(api.KMap, ticking), of(api.KMap, of(api.KMap, of(api.KSet))), of(api.KPair, ticking, of(api.KLast)), of(api.KCause, of(api.KMap, of(api.KOr))),
		of(api.KPair, of(api.KCause, of(api.KSet)), of(api.KCause, of(api.KMax))), of(api.KMap, of(api.KPair, of(api.KPair, of(api.KOr), of(api.KSet)), of(api.KMax))))
}
