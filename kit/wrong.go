package kit

import (
	"iter"
	"slices"
	"strings"

	"trefoil/api"
	"trefoil/value"
)

// WrongSchemas gives what is no schema.
func WrongSchemas() []api.Schema {
	most := Of(api.KMax)
	deep := most
	for range api.MaxDepth {
		deep = Of(api.KMap, deep)
	}
	return []api.Schema{
		{}, Of(-1), Of(api.KCause + 1), Of(api.KMax, most), Of(api.KOr, most), Of(api.KSet, most), Of(api.KLast, most), Of(api.KClock, most),
		Of(api.KMap), Of(api.KMap, most, most), Of(api.KCause), Of(api.KCause, most, most), Of(api.KPair), Of(api.KPair, most), Of(api.KPair, most, most, most),
		Of(api.KMap, Of(0)), Of(api.KPair, most, Of(0)), Of(api.KPair, Of(api.KPair, most), most), Of(api.KCause, Of(api.KMap)),
		deep, Full(api.MaxDepth + 1),
	}
}

// Wrong gives what is no value of s: with parts that are out of order, too many, too long, of another Kind, none.
func Wrong(s api.Schema) []api.Value {
	var none api.Value
	long := strings.Repeat("x", api.MaxText+1)
	l := []api.Value{
		Num(2), {N: 2, M: 1}, {M: 1}, Set("b", "a"), Set("a", "a"), Set(long), Set(Texts(0, api.MaxItems+1)...), Last(1, 1), Last(0, 0, ""), Last(1, 1, "a", "b"),
		Keyed("a", none), Keyed("b,a", Num(1), Num(1)), Keyed("a,b", Num(1)), Keyed(long, Num(1)), Pair(none), Pair(none, none, none), Pair(Num(1), Num(1)),
		Clocks(nil), Clocks(Ticks(1, 0)), Clocks(Ticks(2, 1, 1, 1)), Clocks(Ticks(1, 1), Ticks(2, 1)), Cause(At(Ticks(1, 1), none), At(Ticks(1, 2), none)), Cause(At(Ticks(2, 1), none), At(Ticks(1, 1), none)), Cause(At(Ticks(1, 1), api.Value{M: 5})), none,
	}
	for _, c := range Samples() {
		l = append(l, c.Values...)
	}
	return slices.DeleteFunc(l, func(v api.Value) bool { return value.Is(s, v) })
}

// Far gives what is far deeper, or far wider, than a value may be.
func Far() []api.Value {
	var deep api.Value
	for range 1<<16 - 1 {
		deep = Pair(deep)
	}
	return []api.Value{deep, Pair(deep, deep), Set(Texts(0, 100000)...), {V: make([]api.Value, 100000)}}
}

// A Misfit is a schema, a value of it, and one that isn't: what is wrong lies where something right does.
type Misfit struct {
	Schema     api.Schema
	Right, Bad api.Value
}

// Misfits gives them of each sample, with what is wrong outside, and in each Kind that nests.
func Misfits() iter.Seq[Misfit] {
	return func(yield func(Misfit) bool) {
		for _, c := range Samples() {
			for _, bad := range Wrong(c.Schema) {
				for _, w := range append(Wraps(), Bare()) {
					if !yield(Misfit{w.Schema(c.Schema), w.Value(c.Values[len(c.Values)-1]), w.Value(bad)}) {
						return
					}
				}
			}
		}
	}
}

// Twos gives any two of what m has, and nothing, of which one at least is wrong.
func (m Misfit) Twos() [][2]api.Value {
	bottom := value.Bottom(m.Schema)
	return [][2]api.Value{{m.Bad, m.Right}, {m.Right, m.Bad}, {m.Bad, m.Bad}, {m.Bad, bottom}, {bottom, m.Bad}}
}
