package kit

import (
	"slices"

	"trefoil/api"
	"trefoil/value"
)

// Schemas has one of each Kind, and each Kind that nests around others, some of them around themselves.
func Schemas() []api.Schema {
	var l []api.Schema
	for _, c := range Samples() {
		l = append(l, c.Schema)
	}
	ticking := Of(api.KClock)
	return append(l,
		Of(api.KMap, ticking), Of(api.KMap, Of(api.KMap, Of(api.KSet))), Of(api.KPair, ticking, Of(api.KLast)), Of(api.KCause, Of(api.KMap, Of(api.KOr))),
		Of(api.KPair, Of(api.KCause, Of(api.KSet)), Of(api.KCause, Of(api.KMax))), Of(api.KMap, Of(api.KPair, Of(api.KPair, Of(api.KOr), Of(api.KSet)), Of(api.KMax))))
}

// Few answers at most n values of s, the first of them nothing: of the Kinds that have no value in them all small ones.
func Few(s api.Schema, n int) []api.Value {
	l := small(s, Few, fewClocks)
	return some(slices.DeleteFunc(l, func(v api.Value) bool { return !value.Is(s, v) }), n)
}

// Loose answers at most n that have the parts of a value of s, but in whatever order, some of it twice, or nothing. The first of them is nothing.
func Loose(s api.Schema, n int) []api.Value { return some(small(s, Loose, looseClocks), n) }

// small makes what few and loose ones are taken from: of what in answers, with those clocks.
func small(s api.Schema, in func(api.Schema, int) []api.Value, clocks func() [][]api.Tick) []api.Value {
	var none api.Value
	var l []api.Value
	switch s.Kind {
	case api.KMax:
		l = []api.Value{none, Num(1), Num(2), Num(1 << 63), Num(1<<64 - 1)}
	case api.KOr:
		l = []api.Value{none, Num(1)}
	case api.KSet:
		for _, x := range Lists([]string{"", "a", "ab", "b"}, 4) {
			l = append(l, Set(x...))
		}
	case api.KLast:
		l = smallLasts()
	case api.KClock:
		l = append(l, none)
		for _, c := range clocks() {
			l = append(l, Clocks(c))
		}
	case api.KPair:
		for _, a := range in(s.In[0], 6) {
			for _, b := range in(s.In[1], 6) {
				l = append(l, Pair(a, b))
			}
		}
	case api.KMap:
		l = smallMaps(in(s.In[0], 4))
	case api.KCause:
		l = smallCauses(in(s.In[0], 3), some(clocks(), 9))
	}
	return l
}

func smallLasts() []api.Value {
	var l []api.Value
	for _, n := range []uint64{0, 1, 1<<64 - 1} {
		for m := range uint64(3) {
			for _, s := range []string{"", "a", "b", "ab"} {
				l = append(l, Last(n, m, s))
			}
		}
	}
	l[0] = api.Value{} // nothing has no text
	return l
}

// fewClocks gives all clocks of three actors with N of 1 and 2, the empty one among them.
func fewClocks() [][]api.Tick {
	var l [][]api.Tick
	for n := range 27 {
		var c []api.Tick
		for who, x := range []int{n % 3, n / 3 % 3, n / 9} {
			if x > 0 {
				c = append(c, api.Tick{Who: 9 * who, N: uint64(x)})
			}
		}
		l = append(l, c)
	}
	return l
}

// looseClocks gives all lists of at most three of a few ticks, the empty one first.
func looseClocks() [][]api.Tick {
	return Lists(Ticks(0, 0, 0, 1, 0, 2, 9, 0, 9, 1, 18, 2), 3)
}

func smallMaps(in []api.Value) []api.Value {
	var from []api.Entry
	for _, k := range []string{"", "a", "b"} {
		for _, v := range in {
			from = append(from, api.Entry{Key: k, Value: v})
		}
	}
	var l []api.Value
	for _, x := range Lists(from, 3) {
		var v api.Value
		for _, e := range x {
			v.S, v.V = append(v.S, e.Key), append(v.V, e.Value)
		}
		l = append(l, v)
	}
	return l
}

func smallCauses(in []api.Value, clocks [][]api.Tick) []api.Value {
	var from []Version
	for i, c := range clocks {
		from = append(from, At(c, in[i%len(in)]), At(c, in[(i+1)%len(in)]))
	}
	var l []api.Value
	for _, x := range Lists(from, 3) {
		l = append(l, Cause(x...))
	}
	return l
}

// some answers at most n of l, from all over it, its first one among them.
func some[T any](l []T, n int) []T {
	if len(l) <= n {
		return l
	}
	var out []T
	for i := range n {
		out = append(out, l[i*len(l)/n])
	}
	return out
}
