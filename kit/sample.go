package kit

import (
	"trefoil/api"
	"trefoil/schema"
)

// A Sample is a schema and some values of it: the first one is nothing, the others are more.
type Sample struct {
	Schema api.Schema
	Values []api.Value
}

func sample(s api.Schema, l ...api.Value) Sample { return Sample{Schema: s, Values: l} }

// Samples has a schema of each Kind, and each Kind that nests around others.
func Samples() []Sample {
	return append(flat(), nested()...)
}

// flat are of the Kinds that have no value in them.
func flat() []Sample {
	var none api.Value
	return []Sample{
		sample(Of(api.KMax), none, Num(1), Num(2), Num(1<<64-1)),
		sample(Of(api.KOr), none, Num(1)),
		sample(Of(api.KSet), none, Set("a"), Set(""), Set("", "a", "b"), Set("a", "ab", "b")),
		sample(Of(api.KLast), none, Last(1, 0, ""), Last(0, 1, ""), Last(0, 0, "a"), Last(7, 8, "abc")),
		sample(Of(api.KClock), none, Clocks(Ticks(1, 1)), Clocks(Ticks(1, 2, 3, 4)), Clocks(Ticks(0, 1, 1000000, 9))),
	}
}

func nested() []Sample {
	var none api.Value
	most, sets, lasts, ticking := Of(api.KMax), Of(api.KSet), Of(api.KLast), Of(api.KClock)
	one, two, both := Ticks(1, 1), Ticks(2, 1), Ticks(1, 2, 3, 4)
	return []Sample{
		sample(Of(api.KMap, most), none, Keyed("a", Num(1)), Keyed("", Num(3)), Keyed("a,b", Num(2), Num(1))),
		sample(Of(api.KMap, Of(api.KPair, most, sets)), none, Keyed("a", Pair(Num(1), none)), Keyed("a,b", Pair(none, Set("x")), Pair(Num(1), Set("")))),
		sample(Of(api.KMap, Of(api.KMap, lasts)), none, Keyed("k", Keyed("a,b", Last(1, 2, "x"), Last(0, 0, "y")))),
		sample(Of(api.KPair, most, sets), Pair(none, none), Pair(Num(1), none), Pair(none, Set("a")), Pair(Num(5), Set("a", "b"))),
		sample(Of(api.KPair, Of(api.KPair, most, ticking), Of(api.KMap, Of(api.KOr))), Pair(Pair(none, none), none), Pair(Pair(none, Clocks(one)), Keyed("a", Num(1)))),
		sample(Of(api.KCause, sets), none, Cause(At(nil, none)), Cause(At(one, none)), Cause(At(one, Set("a")), At(two, none)), Cause(At(Ticks(1, 1, 3, 1), none), At(Ticks(1, 2), Set("", "b")))),
		sample(Of(api.KCause, Of(api.KPair, most, most)), none, Cause(At(one, Pair(none, none))), Cause(At(one, Pair(Num(1), none)), At(two, Pair(none, none)))),
		sample(Of(api.KCause, Of(api.KCause, most)), none, Cause(At(both, none)), Cause(At(both, Cause(At(one, Num(1)), At(two, Num(1)))))),
		sample(schema.Cause(lasts), none, Cause(At(two, Pair(Keyed("a,b", Clocks(one), Clocks(both)), Last(1, 1, "x"))))),
		sample(Of(api.KMap, Of(api.KCause, most)), none, Keyed("a", Cause(At(nil, none))), Keyed("a,b", Cause(At(one, Num(2))), Cause(At(two, none)))),
	}
}

// Full answers pairs of pairs, as wide as a schema that deep can be.
func Full(depth int) api.Schema {
	s := Of(api.KMax)
	for range depth - 1 {
		s = Of(api.KPair, s, s)
	}
	return s
}

// A Wrap puts a schema, and a value of it, into others.
type Wrap struct {
	Name   string
	Schema func(api.Schema) api.Schema
	Value  func(api.Value) api.Value
}

func Wraps() []Wrap {
	or := Of(api.KOr)
	return []Wrap{
		{"a map", func(s api.Schema) api.Schema { return Of(api.KMap, s) }, func(v api.Value) api.Value { return Keyed("k", v) }},
		{"a pair's first", func(s api.Schema) api.Schema { return Of(api.KPair, s, or) }, func(v api.Value) api.Value { return Pair(v, Num(1)) }},
		{"a pair's second", func(s api.Schema) api.Schema { return Of(api.KPair, or, s) }, func(v api.Value) api.Value { return Pair(Num(0), v) }},
		{"a cause", func(s api.Schema) api.Schema { return Of(api.KCause, s) }, func(v api.Value) api.Value { return Cause(At(Ticks(1, 1), v)) }},
	}
}

// Bare puts nothing around them.
func Bare() Wrap {
	return Wrap{"nothing", func(s api.Schema) api.Schema { return s }, func(v api.Value) api.Value { return v }}
}

// A Three puts a schema, and three values of it, into one.
type Three struct {
	Name   string
	Schema func(api.Schema) api.Schema
	Value  func([]api.Value) api.Value
}

func Threes() []Three {
	return []Three{
		{"pairs", func(s api.Schema) api.Schema { return Of(api.KPair, s, Of(api.KPair, s, s)) }, func(l []api.Value) api.Value { return Pair(l[0], Pair(l[1:]...)) }},
		{"a map", func(s api.Schema) api.Schema { return Of(api.KMap, s) }, func(l []api.Value) api.Value { return Keyed("a,b,c", l...) }},
		{"a cause", func(s api.Schema) api.Schema { return Of(api.KCause, s) }, func(l []api.Value) api.Value {
			return Cause(At(Ticks(1, 1), l[0]), At(Ticks(2, 1), l[1]), At(Ticks(3, 1), l[2]))
		}},
	}
}
